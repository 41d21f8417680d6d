/-
  CtxPlays, whatever the lists.
-/
import Derived.Test.YtihegikilidofaaCtxLawPlays
namespace Go.Proofs.Ytihegikilidofaa
open Go.RowKit
open CtxM
set_option linter.unusedVariables false
set_option maxRecDepth 20000

theorem plays_any (vl va : Value) (L M : List Dt) (w : World) (hL : Sd w vl L) (hM : Sd w va M) :
    Calls Try.prog 3 #[vl, va] w fun e w' => e = .returned (.bool true) ∧ Below w.heap.size w w' := by
  by_cases hl : L.length ≤ 200
  · by_cases hm : M.length ≤ 200
    · exact plays_short vl va L M w hL hM hl hm
    · obtain ⟨A, c, rfl, _, _⟩ := hL
      obtain ⟨A2, c2, rfl, _, _⟩ := hM
      have b1 : decide ((200 : Int) < (L.length : Int)) = false := decide_eq_false (by omega)
      have b2 : (200 : Int) < (M.length : Int) := by omega
      clear hl hm
      go_enter Try.func3, Try.ntmps3
      go_wp2_with fail
      refine (known_any w).mono ?_
      rintro e w' ⟨rfl, hb⟩
      go_wp2
      go_ret
      exact ⟨rfl, hb⟩
  · obtain ⟨A, c, rfl, _, _⟩ := hL
    obtain ⟨A2, c2, rfl, _, _⟩ := hM
    have b1 : (200 : Int) < (L.length : Int) := by omega
    clear hl
    go_enter Try.func3, Try.ntmps3
    go_wp2_with fail
    refine (known_any w).mono ?_
    rintro e w' ⟨rfl, hb⟩
    go_wp2
    go_ret
    exact ⟨rfl, hb⟩
end Go.Proofs.Ytihegikilidofaa

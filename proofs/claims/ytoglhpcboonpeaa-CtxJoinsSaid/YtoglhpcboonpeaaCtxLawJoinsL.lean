/-
  CtxJoins, whatever the lists.
-/
import Derived.Test.YtoglhpcboonpeaaCtxLawJoins
import Derived.Test.YtoglhpcboonpeaaCtxOpen
namespace Go.Proofs.Ytoglhpcboonpeaa
open Go.ChangeShapes Go.WideShapes Go.ChangeAt Go.RowKit Go.Deep CtxM
set_option linter.unusedVariables false
set_option maxRecDepth 20000

theorem joins_any (vl vo vs : Value) (L O M : List Dt) (w : World) (hL : Sd w vl L) (hO : Sd w vo O) (hM : Sd w vs M) :
    Calls Try.prog 4 #[vl, vo, vs] w fun e w' => e = .returned (.bool true) ∧ Below w.heap.size w w' := by
  by_cases hl : L.length ≤ 100
  · by_cases ho : O.length ≤ 100
    · by_cases hm : M.length ≤ 100
      · exact joins_short vl vo vs L O M w hL hO hM hl ho hm
      · obtain ⟨A, c, rfl, _, _⟩ := hL
        obtain ⟨A2, c2, rfl, _, _⟩ := hO
        obtain ⟨A3, c3, rfl, _, _⟩ := hM
        have b1 : decide ((100 : Int) < (L.length : Int)) = false := decide_eq_false (by omega)
        have b2 : decide ((100 : Int) < (O.length : Int)) = false := decide_eq_false (by omega)
        have b3 : (100 : Int) < (M.length : Int) := by omega
        clear hl ho hm
        go_enter Try.func4, Try.ntmps4
        go_wp2_with fail
        refine (known_any w).mono ?_
        rintro e w' ⟨rfl, hb⟩
        go_wp2
        go_ret
        exact ⟨rfl, hb⟩
    · obtain ⟨A, c, rfl, _, _⟩ := hL
      obtain ⟨A2, c2, rfl, _, _⟩ := hO
      obtain ⟨A3, c3, rfl, _, _⟩ := hM
      have b1 : decide ((100 : Int) < (L.length : Int)) = false := decide_eq_false (by omega)
      have b2 : (100 : Int) < (O.length : Int) := by omega
      clear hl ho
      go_enter Try.func4, Try.ntmps4
      go_wp2_with fail
      refine (known_any w).mono ?_
      rintro e w' ⟨rfl, hb⟩
      go_wp2
      go_ret
      exact ⟨rfl, hb⟩
  · obtain ⟨A, c, rfl, _, _⟩ := hL
    obtain ⟨A2, c2, rfl, _, _⟩ := hO
    obtain ⟨A3, c3, rfl, _, _⟩ := hM
    have b1 : (100 : Int) < (L.length : Int) := by omega
    clear hl
    go_enter Try.func4, Try.ntmps4
    go_wp2_with fail
    refine (known_any w).mono ?_
    rintro e w' ⟨rfl, hb⟩
    go_wp2
    go_ret
    exact ⟨rfl, hb⟩
end Go.Proofs.Ytoglhpcboonpeaa

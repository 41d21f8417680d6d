/-
  The walks of the document's May, Less, Has, SameDots.
-/
import Derived.Test.YtldfaaahmpncbaaGreatCtxNew
import Derived.Test.YtldfaaahmpncbaaGreatCtxEq
namespace Go.Proofs.YtldfaaahmpncbaaGreat
open Go.RowKit
open CtxM
set_option linter.unusedVariables false
set_option linter.unusedSimpArgs false
set_option maxRecDepth 20000

theorem refMay_any (d : Dt) (w : World) : Calls Tryz.prog 23 #[.agg #[.int .i64 d.1, .int .u64 (d.2 : Int)]] w fun e w' => e = .returned (.bool (decide (May d))) ∧ Grw w w' := by
  have hg := (Grw.refl w).alloc (.cells #[.int .i64 d.1, .int .u64 (d.2 : Int)] 41)
  go_enter Tryz.func23, Tryz.ntmps23
  by_cases h1 : 1 ≤ d.1
  · by_cases h2 : d.1 ≤ 16
    · by_cases h3 : 1 ≤ d.2
      · have k3 : (1 : Int) ≤ (d.2 : Int) := by omega
        by_cases h4 : d.2 ≤ top
        · have k4 : (d.2 : Int) ≤ 4611686018427387904 := by unfold top at h4; omega
          go_wp2
          go_ret
          exact ⟨ret_bool (by rw [eq_comm, decide_eq_true_iff]; exact ⟨h1, h2, h3, h4⟩), hg⟩
        · have k4 : ¬ (d.2 : Int) ≤ 4611686018427387904 := by unfold top at h4; omega
          have H := Lib.hid h4
          clear h4
          go_wp2
          go_ret
          exact ⟨ret_bool (by rw [eq_comm, decide_eq_false_iff_not]; exact fun h => H.out h.2.2.2), hg⟩
      · have k3 : ¬ (1 : Int) ≤ (d.2 : Int) := by omega
        have H := Lib.hid h3
        clear h3
        go_wp2
        go_ret
        exact ⟨ret_bool (by rw [eq_comm, decide_eq_false_iff_not]; exact fun h => H.out h.2.2.1), hg⟩
    · have H := Lib.hid h2
      go_wp2
      go_ret
      exact ⟨ret_bool (by rw [eq_comm, decide_eq_false_iff_not]; exact fun h => by have h1 := H.out; have h2 := h.2.1; omega), hg⟩
  · have H := Lib.hid h1
    go_wp2
    go_ret
    exact ⟨ret_bool (by rw [eq_comm, decide_eq_false_iff_not]; exact fun h => by have h1 := H.out; have h2 := h.1; omega), hg⟩
theorem Sx.atk {w : World} {g : Nat} {v : Value} {V : List Nat} {X : List Dt} (h : Sx w g v V X) (k : Nat) (h2 : k < 16) : w.cell? ⟨g, k, none⟩ = some (.int .u64 (CtxM.at_ V ((k : Int) + 1) : Int)) := by
  rw [h.at_ k h2]
  unfold CtxM.at_
  rw [show ((k : Int) + 1 - 1).toNat = k by omega, List.getD_eq_getElem?_getD, List.getElem?_eq_getElem (by rw [h.fit.len]; exact h2)]
  rfl
/-- A dot of a slice, as its cells say it. -/
theorem Sd.at_ {w : World} {A : Option Addr} {n c : Nat} {L : List Dt} (h : Sd w (.slice A n c) L) (k : Nat) (hk : k < L.length) (d : Dt) (hd : L[k] = d) : ∃ b o, A = some ⟨b, o, none⟩ ∧ w.cell? ⟨b, o + k * 2, none⟩ = some (.int .i64 d.1) ∧ w.cell? ⟨b, o + k * 2 + 1, none⟩ = some (.int .u64 (d.2 : Int)) := by
  obtain ⟨A', c', e, hc, ha⟩ := h
  injection e with e1 e2 e3
  subst e1
  obtain ⟨b, o, rfl, hx⟩ := ha (by omega)
  exact ⟨b, o, rfl, by rw [← hd]; exact (hx k hk).1, by rw [← hd]; exact (hx k hk).2⟩

end Go.Proofs.YtldfaaahmpncbaaGreat

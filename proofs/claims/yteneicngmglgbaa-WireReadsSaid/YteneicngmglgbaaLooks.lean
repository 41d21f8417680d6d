/-
  What both readers say of themselves: how much is left, have they failed, the end; a list of steps in memory.
-/
import Derived.Test.YteneicngmglgbaaStepA
namespace Go.Proofs.Yteneicngmglgbaa.RB
open Go.RowKit
set_option linter.unusedVariables false
set_option linter.unusedSimpArgs false

theorem drewN_drewN (w : World) (a b : Nat) : (w.drewN a).drewN b = w.drewN (a + b) := by
  simp [World.drewN, Nat.add_assoc]
theorem JS.drewN {B : Nat} {w : World} {g h bb cB : Nat} {L : List UInt8} (J : JS B w g h bb cB L) (n : Nat) : JS B (w.drewN n) g h bb cB L := by
  have hb : Below w.heap.size w (w.drewN n) := below_drewN (Below.refl _ _) n
  rcases J with ⟨a, r, hs⟩ | ⟨a, r, hs⟩
  · exact .inl ⟨a, r.drewN n, hs.below hb⟩
  · exact .inr ⟨a, r.drewN n, hs.below hb⟩
/-- What both say. -/
structure Looks (w : World) (g h : Nat) (X Y : Int) (F : Bool) : Prop where
  left : ∀ n, Calls Try.prog 31 #[.pointer (some ⟨g, 0, none⟩)] (w.drewN n) fun e w' => e = .returned (.int .i64 X) ∧ ∃ m, w' = w.drewN m
  left2 : ∀ n, Calls Try.prog 32 #[.pointer (some ⟨h, 0, none⟩)] (w.drewN n) fun e w' => e = .returned (.int .i64 X) ∧ ∃ m, w' = w.drewN m
  failed : ∀ n, Calls Try.prog 33 #[.pointer (some ⟨g, 0, none⟩)] (w.drewN n) fun e w' => e = .returned (.bool F) ∧ ∃ m, w' = w.drewN m
  failed2 : ∀ n, (w.drewN n).cell? ⟨h, 2, none⟩ = some (.bool F)
  end_ : ∀ n, Calls Try.prog 34 #[.pointer (some ⟨g, 0, none⟩)] (w.drewN n) fun e w' => e = .returned (.int .i64 Y) ∧ ∃ m, w' = w.drewN m
  end2 : ∀ n, Calls Try.prog 35 #[.pointer (some ⟨h, 0, none⟩)] (w.drewN n) fun e w' => e = .returned (.int .i64 Y) ∧ ∃ m, w' = w.drewN m
theorem JS.looks {B : Nat} {w : World} {g h bb cB : Nat} {L : List UInt8} (J : JS B w g h bb cB L) : ∃ X Y F, Looks w g h X Y F := by
  have hb : ∀ n, Below w.heap.size w (w.drewN n) := fun n => below_drewN (Below.refl _ _) n
  rcases J with ⟨a, r, hs⟩ | ⟨a, r, hs⟩
  · refine ⟨0, 4, true, fun n => ?_, fun n => ?_, fun n => ?_, fun n => (r.drewN n).blk.cell 2, fun n => ?_, fun n => ?_⟩
    · exact (left_yes g _ (hs.below (hb n))).mono fun e w' ⟨he, hw⟩ => ⟨he, n, hw.symm⟩
    · exact (refLeft_yes h bb cB a L _ (r.drewN n)).mono fun e w' ⟨he, hw⟩ => ⟨he, n, hw.symm⟩
    · exact (failed_yes g _ (hs.below (hb n))).mono fun e w' ⟨he, hw⟩ => ⟨he, n, hw.symm⟩
    · exact (end_yes g _ (hs.below (hb n))).mono fun e w' ⟨he, hw⟩ => ⟨he, n, hw.symm⟩
    · exact (refEnd_yes h bb cB a L _ (r.drewN n)).mono fun e w' ⟨he, hw⟩ => ⟨he, n, hw.symm⟩
  · refine ⟨((L.drop a).length : Int), endN (L.drop a), false, fun n => ?_, fun n => ?_, fun n => ?_, fun n => (r.drewN n).blk.cell 2, fun n => ?_, fun n => ?_⟩
    · exact (left_no g _ _ (hs.below (hb n))).mono fun e w' ⟨he, hw⟩ => ⟨he, n, hw.symm⟩
    · exact (refLeft_no h bb cB a L _ (r.drewN n)).mono fun e w' ⟨he, m, hw⟩ => ⟨he, n + m, by rw [hw, drewN_drewN]⟩
    · exact (failed_no g _ _ (hs.below (hb n))).mono fun e w' ⟨he, hw⟩ => ⟨he, n, hw.symm⟩
    · exact (end_no g _ _ (hs.below (hb n))).mono fun e w' ⟨he, hw⟩ => ⟨by rw [he]; rfl, n, hw.symm⟩
    · exact (refEnd_no h bb cB a L _ (r.drewN n)).mono fun e w' ⟨he, m, hw⟩ => ⟨he, n + m, by rw [hw, drewN_drewN]⟩

/-- The value v is a slice of steps that reads as the list ls. -/
def Stp (w : World) (v : Value) (ls : List (Int × Int)) : Prop :=
  ∃ A c, v = .slice A ls.length c ∧ ls.length ≤ c ∧ (0 < ls.length → ∃ b o, A = some ⟨b, o, none⟩ ∧ ∀ j (h : j < ls.length), w.cell? ⟨b, o + 2 * j, none⟩ = some (.int .i64 ls[j].1) ∧ w.cell? ⟨b, o + 2 * j + 1, none⟩ = some (.int .i64 ls[j].2))
theorem Stp.below {w w' : World} {v : Value} {ls : List (Int × Int)} (h : Stp w v ls) (hb : Below w.heap.size w w') : Stp w' v ls := by
  obtain ⟨A, c, rfl, hc, ha⟩ := h
  refine ⟨A, c, rfl, hc, fun hn => ?_⟩
  obtain ⟨b, o, rfl, hx⟩ := ha hn
  exact ⟨b, o, rfl, fun j hj => ⟨(hb.cell (World.block_lt_of_cell? w _ (hx j hj).1)).trans (hx j hj).1, (hb.cell (World.block_lt_of_cell? w _ (hx j hj).2)).trans (hx j hj).2⟩⟩
end Go.Proofs.Yteneicngmglgbaa.RB

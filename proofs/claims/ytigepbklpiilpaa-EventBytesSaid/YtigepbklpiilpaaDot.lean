/-
  The walk of the document's Dot, whose one statement leaves its order open.
-/
import Derived.Test.YtigepbklpiilpaaJoin
import Derived.Deep.DeepFit
namespace Go.Proofs.Ytigepbklpiilpaa
open Go.RowKit
set_option linter.unusedVariables false

/-- The document's Dot. -/
theorem refDot_any (r n : Nat) (w : World) (hr : r ≤ 255) (hn : n < 18446744073709551616) :
    Calls Try.prog 34 #[.agg #[.int .i64 (r : Int), .int .u64 (n : Int)]] w fun e w' => ∃ v', e = .returned v' ∧ Own w' w.heap.size 5 v' (beB 1 r ++ beB 8 n) ∧ Below w.heap.size w w' := by
  obtain ⟨i0, hi, hz0, hz1, hz2⟩ := info_parts info_u8
  have hwr : IntKind.u64.wrap (r : Int) = (r : Int) := by rw [IntKind.wrap_u64]; omega
  go_enter Try.func34, Try.ntmps34
  go_wp2_with fail
  go_region_held3 (fun w' => w'.cell? ⟨w.heap.size, 0, none⟩ = some (.int .i64 (r : Int)) ∧ w'.cell? ⟨w.heap.size, 1, none⟩ = some (.int .u64 (n : Int)))
    (first | go_keep | (go_split_ands; exact ⟨(hbC.cell (by simp)).trans (by assumption), (hbC.cell (by simp)).trans (by assumption)⟩) | (go_split_ands; exact ⟨(hbB.cell hsA).trans (by assumption), (hbB.cell hsA).trans (by assumption)⟩) | (go_split_ands; exact ⟨(hbA.cell (by simp)).trans (by assumption), (hbA.cell (by simp)).trans (by assumption)⟩))
    (first | (go_at_call_of 37 (Value.int IntKind.i64 1); refine (refPut_any r 1 _ (by omega) (by omega)).mono ?_; rintro e wA ⟨vA, rfl, hoA, hbA⟩; have hsA : w.heap.size < wA.heap.size := (by have := hbA.size; simp at this; omega)) | (go_at_call_of 37 (Value.int IntKind.i64 8); refine (refPut_any n 8 _ (by omega) (by omega)).mono ?_; rintro e wB ⟨vB, rfl, hoB, hbB⟩) | (refine step_append_bytes _ (by rfl) _ _ _ (by rfl) (w.heap.size + 1) 5 i0 Try.underlying25 hi hz0 hz1 hz2 vA (beB 1 r) (by rfl) ((hoA.below hbB (Nat.le_refl _)).mono (by simp)) vB (beB 8 n) (by rfl) hoB.sl (by simp [beB_length]) (Nat.le_trans hsA hbB.size) ?_; intro vC wC hoC hbC))
  go_wp2
  go_ret
  have h0 : Below w.heap.size w (w.alloc (Obj.cells #[Value.int IntKind.i64 (r : Int), Value.int IntKind.u64 (n : Int)] 24)).drew := ((Below.refl _ _).alloc (Nat.le_refl _) _).drew
  exact ⟨_, rfl, hoC.mono (by omega), ((h0.trans (hbA.mono (by simp))).trans (hbB.mono (by omega))).trans (hbC.mono (by omega))⟩

end Go.Proofs.Ytigepbklpiilpaa

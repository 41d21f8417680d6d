/-
  '==' at vectors and at dots.
-/
import Derived.Test.YtldfaaahmpncbaaGreatCtxBlk
import Derived.ChangeKeysEq
import Derived.Laws.StructEq
namespace Go.Proofs.YtldfaaahmpncbaaGreat
open Go.RowKit
open CtxM
set_option linter.unusedVariables false
set_option linter.unusedSimpArgs false

theorem info_u64 : (Tryz.prog.info? 28).map (fun i => (i.zero, i.size, i.bytes)) = some (some (.int .u64 0), 1, 8) := by kernel_rfl
theorem eqItems_uqs (d : Nat) (a b : List Nat) (h : a.length = b.length) (w : World) : ∀ is : List Nat, (∀ i ∈ is, i < a.length) →
    (Op.eqItems (d + 1) 28 1 (uqs a) (uqs b) is).run Tryz.prog w = .ok (is.all fun i => a.getD i 0 == b.getD i 0) w
  | [], _ => by simp [Op.eqItems]
  | i :: is, hi => by
    have hlt : i < a.length := hi i (by simp)
    have pa : (part 28 (uqs a) (i * 1)).run Tryz.prog w = .ok (.int .u64 (a.getD i 0 : Int)) w := by
      rw [Nat.mul_one]; have hg := uqs_get a i hlt; generalize uqs a = A at hg; simp [part, hg]
    have pb : (part 28 (uqs b) (i * 1)).run Tryz.prog w = .ok (.int .u64 (b.getD i 0 : Int)) w := by
      rw [Nat.mul_one]; have hg := uqs_get b i (by omega); generalize uqs b = B at hg; simp [part, hg]
    have ee : ((a.getD i 0 : Int) == (b.getD i 0 : Int)) = (a.getD i 0 == b.getD i 0) := by
      rw [Bool.eq_iff_iff, beq_iff_eq, beq_iff_eq]
      omega
    have ih := eqItems_uqs d a b h w is (fun j hj => hi j (by simp [hj]))
    simp only [Op.eqItems, Sem.run_bind, pa, pb, Result.andThen_ok, run_equalIn_int w d 28 .u64 .u64 _ _ Tryz.underlying28, List.all_cons, ee]
    cases hx : (a.getD i 0 == b.getD i 0)
    · simp
    · simp [ih]
theorem cells_u64 : Tryz.prog.cellsOf 28 = 1 := by kernel_rfl
theorem all_eqN (a b : List Nat) (n : Nat) (ha : a.length = n) (hb : b.length = n) : ((List.range n).all fun i => a.getD i 0 == b.getD i 0) = decide (a = b) := by
  rw [Bool.eq_iff_iff, List.all_eq_true, decide_eq_true_iff]
  constructor
  · intro h
    apply List.ext_getElem (by omega)
    intro i h1 h2
    have := h i (by simp; omega)
    simpa [List.getD_eq_getElem?_getD, List.getElem?_eq_getElem h1, List.getElem?_eq_getElem h2] using this
  · rintro rfl i _
    simp
/-- Two vectors compared. -/
theorem vec_eq (a b : List Nat) (ha : a.length = 16) (hb : b.length = 16) (w : World) : (Op.equalIn 10000 97 (.agg (uqs a)) (.agg (uqs b))).run Tryz.prog w = .ok (decide (a = b)) w := by
  obtain ⟨i0, hi, _⟩ := info_parts info_u64
  rw [run_equalIn_array w 9999 (uqs a) (uqs b) Tryz.underlying97 hi, cells_u64, eqItems_uqs 9998 a b (by omega) w _ (fun i hi => by simp at hi; omega), all_eqN a b 16 ha hb]
/-- Two dots compared. -/
theorem dot_eq (a b : Dt) (w : World) : (Op.equalIn 10000 41 (.agg #[.int .i64 a.1, .int .u64 (a.2 : Int)]) (.agg #[.int .i64 b.1, .int .u64 (b.2 : Int)])).run Tryz.prog w = .ok (decide (a = b)) w := by
  have u3 := Tryz.underlying3
  have a3 := Tryz.isAgg3
  have z3 := Tryz.sizeOf3
  have u27 := Tryz.underlying28
  have a27 := Tryz.isAgg28
  have z27 := Tryz.sizeOf28
  have hS : Tryz.prog.underlying 41 = some (.struct (Tryz.prog.fieldsOf 41)) := by kernel_rfl
  have hp : Tryz.prog.stoodInHeld 41 = false := by kernel_rfl
  have e : decide (a = b) = (decide (a.1 = b.1) && decide (a.2 = b.2)) := by
    rw [Bool.eq_iff_iff, Bool.and_eq_true, decide_eq_true_iff, decide_eq_true_iff, decide_eq_true_iff]
    exact ⟨fun h => by rw [h]; exact ⟨rfl, rfl⟩, fun h => Prod.ext h.1 h.2⟩
  rw [e, show (10000 : Nat) = 9999 + 1 from rfl, run_equalIn_agg w 9999 41 _ _ hS hp]
  simp only [Program.fieldsOf, Tryz.underlying41]
  go_simp
  by_cases h1 : a.1 = b.1 <;> by_cases h2 : a.2 = b.2 <;> simp [h1, h2]
  exact fun h => h2 (by omega)
end Go.Proofs.YtldfaaahmpncbaaGreat

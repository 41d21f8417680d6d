/-
  The walks of ctx's orders: cmp.Compare of ints and of counts, byRegion, byCount, inTurn; of May, Less, isRegion, of a context's none.
-/
import Derived.Test.YtldfaaahmpncbaaGreatCtxMem
import Derived.Shelf.Abstract
namespace Go.Proofs.YtldfaaahmpncbaaGreat
open Go.RowKit
open CtxM
set_option linter.unusedVariables false
set_option linter.unusedSimpArgs false

def cI (x y : Int) : Int := if x < y then -1 else if y < x then 1 else 0
def cD (a b : Dt) : Int := if cI a.1 b.1 = 0 then cI (a.2 : Int) (b.2 : Int) else cI a.1 b.1
theorem cI_1 {x y : Int} (h : x < y) : cI x y = -1 := by rw [cI, if_pos h]
theorem cI_2 {x y : Int} (h : y < x) : cI x y = 1 := by rw [cI, if_neg (by omega), if_pos h]
theorem cI_3 {x y : Int} (h : x = y) : cI x y = 0 := by rw [cI, if_neg (by omega), if_neg (by omega)]
theorem cI_lt (x y : Int) : cI x y < 0 ↔ x < y := by
  rcases Int.lt_trichotomy x y with h | h | h
  · rw [cI_1 h]; omega
  · rw [cI_3 h]; omega
  · rw [cI_2 h]; omega
theorem cI_eq (x y : Int) : cI x y = 0 ↔ x = y := by
  rcases Int.lt_trichotomy x y with h | h | h
  · rw [cI_1 h]; omega
  · rw [cI_3 h]; omega
  · rw [cI_2 h]; omega
theorem cD_lt (a b : Dt) : cD a b < 0 ↔ Lt a b := by
  unfold cD Lt
  split
  · rename_i h; rw [cI_eq] at h; rw [cI_lt]; omega
  · rename_i h; rw [cI_eq] at h; rw [cI_lt]; omega
theorem cD_eq (a b : Dt) : cD a b = 0 ↔ a = b := by
  rcases a with ⟨a1, a2⟩
  rcases b with ⟨b1, b2⟩
  unfold cD
  simp only [Prod.mk.injEq]
  split
  · rename_i h; simp only [cI_eq] at h ⊢; omega
  · rename_i h; simp only [cI_eq] at h ⊢; omega

theorem cmpInt_any (x y : Int) (w : World) : Calls Tryz.prog 157 #[.int .i64 x, .int .i64 y] w fun e w' => e = .returned (.int .i64 (cI x y)) ∧ w' = w := by
  go_enter Tryz.func157, Tryz.ntmps157
  go_wp2
  · go_ret; exact ⟨ret_int (cI_1 (by assumption)).symm, rfl⟩
  · go_ret; exact ⟨ret_int (cI_2 (by assumption)).symm, rfl⟩
  · go_ret; exact ⟨ret_int (cI_3 (by omega)).symm, rfl⟩
theorem cmpCount_any (x y : Int) (w : World) : Calls Tryz.prog 158 #[.int .u64 x, .int .u64 y] w fun e w' => e = .returned (.int .i64 (cI x y)) ∧ w' = w := by
  go_enter Tryz.func158, Tryz.ntmps158
  go_wp2
  · go_ret; exact ⟨ret_int (cI_1 (by assumption)).symm, rfl⟩
  · go_ret; exact ⟨ret_int (cI_2 (by assumption)).symm, rfl⟩
  · go_ret; exact ⟨ret_int (cI_3 (by omega)).symm, rfl⟩

theorem byRegion_any (a b : Dt) (w : World) : Calls Tryz.prog 127 #[.agg #[.int .i64 a.1, .int .u64 (a.2 : Int)], .agg #[.int .i64 b.1, .int .u64 (b.2 : Int)]] w fun e w' => e = .returned (.int .i64 (cI a.1 b.1)) ∧ Grw w w' := by
  have hc := cmpInt_any a.1 b.1
  generalize cI a.1 b.1 = r at hc ⊢
  go_enter Tryz.func127, Tryz.ntmps127
  go_wp2_with (go_at_call 157; refine (hc _).mono ?_; rintro e w' ⟨rfl, rfl⟩)
  go_ret
  exact ⟨rfl, ((Grw.refl w).alloc _).alloc _⟩
theorem byCount_any (a b : Dt) (w : World) : Calls Tryz.prog 128 #[.agg #[.int .i64 a.1, .int .u64 (a.2 : Int)], .agg #[.int .i64 b.1, .int .u64 (b.2 : Int)]] w fun e w' => e = .returned (.int .i64 (cI (a.2 : Int) (b.2 : Int))) ∧ Grw w w' := by
  have hc := cmpCount_any (a.2 : Int) (b.2 : Int)
  generalize cI (a.2 : Int) (b.2 : Int) = r at hc ⊢
  go_enter Tryz.func128, Tryz.ntmps128
  go_wp2_with (go_at_call 158; refine (hc _).mono ?_; rintro e w' ⟨rfl, rfl⟩)
  go_ret
  exact ⟨rfl, ((Grw.refl w).alloc _).alloc _⟩

end Go.Proofs.YtldfaaahmpncbaaGreat

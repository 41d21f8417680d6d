/-
  The walk of a context's Add.
-/
import Derived.Test.YtldfaaahmpncbaaGreatCtxHas
import Derived.Test.YtldfaaahmpncbaaGreatCtxCompact
import Derived.Test.YtldfaaahmpncbaaGreatCtxInsertG
import Derived.Test.YtldfaaahmpncbaaGreatCtxAddM
import Derived.StillTailTactics
namespace Go.Proofs.YtldfaaahmpncbaaGreat
open Go.RowKit
open CtxM
set_option linter.unusedVariables false
set_option linter.unusedSimpArgs false

/-- What Add leaves of a context: another one, and nothing else turned. -/
def Added (w w' : World) (g : Nat) (v : Value) (S : List Nat × List Dt) : Prop :=
  ∃ v', Cx w' g v' S.1 S.2 ∧ Keep (Foot g v) w w' ∧ Newer w.heap.size v v'

set_option maxHeartbeats 2000000 in
set_option maxRecDepth 20000 in
theorem add_bad (g : Nat) (v : Value) (V : List Nat) (X : List Dt) (d : Dt) (w : World) (hc : Cx w g v V X) (hM : ¬ May d) :
    Calls Tryz.prog 41 #[.pointer (some ⟨g, 0, none⟩), .agg #[.int .i64 d.1, .int .u64 (d.2 : Int)]] w fun e w' => e = .returned (.tuple #[.bool false, .int .i64 2]) ∧ Grw w w' := by
  have hn := fun W (hg : Grw w W) => none_at g true W (hc.below hg.below).made
  have hm := fun W => may_any d W
  rw [decide_eq_false hM] at hm
  have Hg := (Grw.refl w).alloc (.cells #[.int .i64 d.1, .int .u64 (d.2 : Int)] 41)
  clear hc hM
  go_enter Tryz.func41, Tryz.ntmps41
  go_wp2_with (first | (go_at_call 77; refine (hn _ Hg).mono ?_; rintro e w' ⟨rfl, rfl⟩) | (go_at_call 65; refine (hm _).mono ?_; rintro e w1 ⟨rfl, hg1⟩))
  go_ret2
  exact ⟨rfl, Hg.trans hg1⟩

set_option maxHeartbeats 2000000 in
set_option maxRecDepth 20000 in
theorem add_old (g : Nat) (v : Value) (V : List Nat) (X : List Dt) (d : Dt) (w : World) (hc : Cx w g v V X) (hM : May d) (hI : In V X d) (hl : X.length ≤ 4096) :
    Calls Tryz.prog 41 #[.pointer (some ⟨g, 0, none⟩), .agg #[.int .i64 d.1, .int .u64 (d.2 : Int)]] w fun e w' => e = .returned (.tuple #[.bool false, .int .i64 0]) ∧ Grw w w' := by
  have hn := fun W (hg : Grw w W) => none_at g true W (hc.below hg.below).made
  have hm := fun W => may_any d W
  rw [decide_eq_true hM] at hm
  have hh := fun W (hg : Grw w W) => has_any g v V X d W (hc.below hg.below) (by omega)
  rw [decide_eq_true hI] at hh
  have Hg := (Grw.refl w).alloc (.cells #[.int .i64 d.1, .int .u64 (d.2 : Int)] 41)
  have hB := Blk.new w 41 #[.int .i64 d.1, .int .u64 (d.2 : Int)]
  clear hc hM hI
  go_enter Tryz.func41, Tryz.ntmps41
  go_wp2_with (first | (go_at_call 77; refine (hn _ Hg).mono ?_; rintro e w' ⟨rfl, rfl⟩) | (go_at_call 65; refine (hm _).mono ?_; rintro e w1 ⟨rfl, hg1⟩; have hB1 := hB.below hg1.below hB.lt; have q0 : w1.cell? ⟨w.heap.size, 0, none⟩ = some (.int .i64 d.1) := (by rw [hB1.cell]; rfl); have q1 : w1.cell? ⟨w.heap.size, 1, none⟩ = some (.int .u64 (d.2 : Int)) := (by rw [hB1.cell]; rfl)) | (go_at_call 42; refine (hh _ (Hg.trans hg1)).mono ?_; rintro e w2 ⟨rfl, hg2⟩))
  go_ret2
  exact ⟨rfl, (Hg.trans hg1).trans hg2⟩
end Go.Proofs.YtldfaaahmpncbaaGreat

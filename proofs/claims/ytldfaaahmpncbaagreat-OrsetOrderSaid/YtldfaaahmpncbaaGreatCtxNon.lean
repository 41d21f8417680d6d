/-
  What a context answers that is not there, or a zero one.
-/
import Derived.Test.YtldfaaahmpncbaaGreatCtxCovers
namespace Go.Proofs.YtldfaaahmpncbaaGreat
open Go.RowKit
open CtxM
set_option linter.unusedVariables false
set_option linter.unusedSimpArgs false
set_option maxRecDepth 20000

/-- A context that is none. -/
def Non (w : World) (p : Value) : Prop := p = .pointer none ∨ ∃ g, p = .pointer (some ⟨g, 0, none⟩) ∧ w.cell? ⟨g, 0, none⟩ = some (.bool false)
theorem Non.below {w w' : World} {p : Value} (h : Non w p) (hb : Below w.heap.size w w') : Non w' p := by
  rcases h with h | ⟨g, h, k⟩
  · exact .inl h
  · exact .inr ⟨g, h, (hb.cell (World.block_lt_of_cell? w _ k)).trans k⟩
theorem none_non (p : Value) (w : World) (h : Non w p) : Calls Tryz.prog 77 #[p] w fun e w' => e = .returned (.bool true) ∧ w' = w := by
  rcases h with rfl | ⟨g, rfl, k⟩
  · exact none_nil w
  · exact none_at g false w k
theorem add_non (p : Value) (d : Dt) (w : World) (h : Non w p) : Calls Tryz.prog 41 #[p, .agg #[.int .i64 d.1, .int .u64 (d.2 : Int)]] w fun e w' => e = .returned (.tuple #[.bool false, .int .i64 1]) ∧ Below w.heap.size w w' := by
  have hb : Below w.heap.size w (w.alloc (.cells #[.int .i64 d.1, .int .u64 (d.2 : Int)] 41)) := (Below.refl _ _).alloc (Nat.le_refl _) _
  have hn := none_non p _ (h.below hb)
  clear h
  go_enter Tryz.func41, Tryz.ntmps41
  go_wp2_with (go_at_call 77; refine hn.mono ?_; rintro e w' ⟨rfl, rfl⟩)
  go_ret2
  exact ⟨rfl, hb⟩
theorem has_non (p : Value) (d : Dt) (w : World) (h : Non w p) : Calls Tryz.prog 42 #[p, .agg #[.int .i64 d.1, .int .u64 (d.2 : Int)]] w fun e w' => e = .returned (.bool false) ∧ Below w.heap.size w w' := by
  have hb : Below w.heap.size w (w.alloc (.cells #[.int .i64 d.1, .int .u64 (d.2 : Int)] 41)) := (Below.refl _ _).alloc (Nat.le_refl _) _
  have hn := none_non p _ (h.below hb)
  clear h
  go_enter Tryz.func42, Tryz.ntmps42
  go_wp2_with (go_at_call 77; refine hn.mono ?_; rintro e w' ⟨rfl, rfl⟩)
  go_ret
  exact ⟨rfl, hb⟩
theorem extra_non (p : Value) (w : World) (h : Non w p) : Calls Tryz.prog 60 #[p] w fun e w' => e = .returned (.slice none 0 0) ∧ w' = w := by
  have hn := none_non p _ h
  clear h
  go_enter Tryz.func60, Tryz.ntmps60
  go_wp2_with (go_at_call 77; refine hn.mono ?_; rintro e w' ⟨rfl, rfl⟩)
  go_ret
  exact ⟨rfl, rfl⟩
theorem vector_non (p : Value) (w : World) (h : Non w p) : Calls Tryz.prog 59 #[p] w fun e w' => e = .returned (.agg (uqs zeros)) ∧ Below w.heap.size w w' := by
  have hb : Below w.heap.size w (w.alloc (.cells #[.int .u64 0, .int .u64 0, .int .u64 0, .int .u64 0, .int .u64 0, .int .u64 0, .int .u64 0, .int .u64 0, .int .u64 0, .int .u64 0, .int .u64 0, .int .u64 0, .int .u64 0, .int .u64 0, .int .u64 0, .int .u64 0] 97)) := (Below.refl _ _).alloc (Nat.le_refl _) _
  have hn := none_non p _ (h.below hb)
  have hB := Blk.new w 97 #[.int .u64 0, .int .u64 0, .int .u64 0, .int .u64 0, .int .u64 0, .int .u64 0, .int .u64 0, .int .u64 0, .int .u64 0, .int .u64 0, .int .u64 0, .int .u64 0, .int .u64 0, .int .u64 0, .int .u64 0, .int .u64 0]
  have hth := hB.there
  have hinf := uqs_info (U := zeros) rfl
  have hone := uqs_one zeros
  clear h
  go_enter Tryz.func59, Tryz.ntmps59
  go_wp2_with (first | (go_at_call 77; refine hn.mono ?_; rintro e w' ⟨rfl, rfl⟩) | (refine wpList_store_mid rfl 97 _ _ rfl w.heap.size 0 (uqs zeros) rfl rfl hth hinf hone ?_))
  have hE := hB.setRow (ds := uqs zeros) rfl
  exact bodyPost_ret (v := .agg (uqs zeros)) (results_cell_row rfl _ _ w.heap.size 97 (uqs zeros) (0, 0) _ rfl hE Tryz.underlying97 rfl hinf) rfl ⟨rfl, Below.only hb (grown_setCells _ _ _ _) (Nat.le_refl _) hb.size⟩
theorem copy_non (p : Value) (w : World) (h : Non w p) : Calls Tryz.prog 49 #[p] w fun e w' => e = .returned (.pointer none) ∧ w' = w := by
  have hn := none_non p _ h
  clear h
  go_enter Tryz.func49, Tryz.ntmps49
  go_wp2_with (go_at_call 77; refine hn.mono ?_; rintro e w' ⟨rfl, rfl⟩)
  go_ret
  exact ⟨rfl, rfl⟩
theorem same_non (p q : Value) (w : World) (h : Non w p) (hq : Non w q) : Calls Tryz.prog 37 #[p, q] w fun e w' => e = .returned (.bool true) ∧ w' = w := by
  have hn1 := none_non p _ h
  have hn2 := none_non q _ hq
  clear h hq
  go_enter Tryz.func37, Tryz.ntmps37
  go_wp2_with fail
  refine hn1.mono ?_
  rintro e w' ⟨rfl, rfl⟩
  go_wp2_with fail
  refine hn1.mono ?_
  rintro e w' ⟨rfl, rfl⟩
  go_wp2_with fail
  refine hn2.mono ?_
  rintro e w' ⟨rfl, rfl⟩
  go_wp2
  go_ret
  exact ⟨rfl, rfl⟩
theorem same_half (p : Value) (h : Nat) (u : Value) (V : List Nat) (X : List Dt) (w : World) (hp : Non w p) (ho : Cx w h u V X) : Calls Tryz.prog 37 #[p, .pointer (some ⟨h, 0, none⟩)] w fun e w' => e = .returned (.bool false) ∧ w' = w := by
  have hn1 := none_non p _ hp
  have hn2 := none_at h true w ho.made
  clear hp ho
  go_enter Tryz.func37, Tryz.ntmps37
  go_wp2_with fail
  refine hn1.mono ?_
  rintro e w' ⟨rfl, rfl⟩
  go_wp2_with fail
  refine hn1.mono ?_
  rintro e w' ⟨rfl, rfl⟩
  go_wp2_with fail
  refine hn2.mono ?_
  rintro e w' ⟨rfl, rfl⟩
  go_wp2
  go_ret
  exact ⟨rfl, rfl⟩
end Go.Proofs.YtldfaaahmpncbaaGreat

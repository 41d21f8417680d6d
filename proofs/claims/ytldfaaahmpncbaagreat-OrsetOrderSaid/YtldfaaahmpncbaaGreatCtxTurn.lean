/-
  The walk of ctx's inTurn.
-/
import Derived.Test.YtldfaaahmpncbaaGreatCtxCmp
namespace Go.Proofs.YtldfaaahmpncbaaGreat
open Go.RowKit
open CtxM
set_option linter.unusedVariables false
set_option linter.unusedSimpArgs false

/-- Two boxes that were laid lie there behind whatever turns nothing. -/
theorem two_boxed {w w' : World} {c1 c2 : Array Value} {t1 t2 : TypeId} (h : Below ((w.alloc (.cells c1 t1)).alloc (.cells c2 t2)).heap.size ((w.alloc (.cells c1 t1)).alloc (.cells c2 t2)) w') : Blk w' w.heap.size t1 c1 ∧ Blk w' (w.heap.size + 1) t2 c2 := by
  have s1 : (w.alloc (.cells c1 t1)).heap.size = w.heap.size + 1 := by simp
  have s2 : ((w.alloc (.cells c1 t1)).alloc (.cells c2 t2)).heap.size = w.heap.size + 1 + 1 := by simp
  refine ⟨((Blk.new w t1 c1).alloc _).below h (by omega), ?_⟩
  have := Blk.new (w.alloc (.cells c1 t1)) t2 c2
  rw [s1] at this
  exact this.below h (by omega)
theorem info_fn : (Tryz.prog.info? 125).map (·.size) = some 1 := by kernel_rfl
theorem run_index_fn0 (w : World) :
    (Instr.index 152 (.agg #[.func (.func 127) #[] #[], .func (.func 128) #[] #[]]) (.int .i64 0)).run Tryz.prog w = .ok (.func (.func 127) #[] #[]) w := by
  have h := info_fn
  cases hi : Tryz.prog.info? 125 with
  | none => simp [hi] at h
  | some i =>
    have hs : i.size = 1 := by simpa [hi] using h
    simp [Instr.index, asIntOf, run_underlying Tryz.underlying152, sizeOf, typeInfo, hi, hs, part]

theorem run_index_fn1 (w : World) :
    (Instr.index 152 (.agg #[.func (.func 127) #[] #[], .func (.func 128) #[] #[]]) (.int .i64 1)).run Tryz.prog w = .ok (.func (.func 128) #[] #[]) w := by
  have h := info_fn
  cases hi : Tryz.prog.info? 125 with
  | none => simp [hi] at h
  | some i =>
    have hs : i.size = 1 := by simpa [hi] using h
    simp [Instr.index, asIntOf, run_underlying Tryz.underlying152, sizeOf, typeInfo, hi, hs, part]

set_option maxRecDepth 20000 in
theorem inTurn_any (a b : Dt) (w : World) : Calls Tryz.prog 111 #[.agg #[.int .i64 a.1, .int .u64 (a.2 : Int)], .agg #[.int .i64 b.1, .int .u64 (b.2 : Int)]] w fun e w' => e = .returned (.int .i64 (cD a b)) ∧ Grw w w' := by
  have hr := byRegion_any a b
  have hk := byCount_any a b
  have e57 : ∀ args w, (callFunc 127 args).run Tryz.prog w = .ok (.enter 127 args) w := enters_of Tryz.func127 (by kernel_rfl) rfl
  have e58 : ∀ args w, (callFunc 128 args).run Tryz.prog w = .ok (.enter 128 args) w := enters_of Tryz.func128 (by kernel_rfl) rfl
  have hd : cD a b = if cI a.1 b.1 = 0 then cI (a.2 : Int) (b.2 : Int) else cI a.1 b.1 := rfl
  generalize cI (a.2 : Int) (b.2 : Int) = r2 at hd hk
  generalize cI a.1 b.1 = r1 at hd hr
  generalize cD a b = r at hd ⊢
  have H := Lib.hid hd
  clear hd
  have hx0 := run_index_fn0
  have hx1 := run_index_fn1
  go_enter Tryz.func111, Tryz.ntmps111
  go_wp2
  refine wp_loop_rounds 3 ?_
  rw [rounds_succ]
  go_wp2_with (first | (go_at_fn 127; refine (hr _).mono ?_; rintro e w' ⟨rfl, hg⟩) | (go_at_fn 128; refine (hk _).mono ?_; rintro e w' ⟨rfl, hg⟩))
  · have hz : ¬ r1 = 0 := by rename_i h; simpa using h
    have hd := H.out
    rw [if_neg hz] at hd
    go_ret
    exact ⟨ret_int hd.symm, (((Grw.refl w).alloc _).alloc _).trans hg⟩
  · have hb := two_boxed hg.below
    have c1 := hb.1.cell 0
    have c2 := hb.1.cell 1
    have c3 := hb.2.cell 0
    have c4 := hb.2.cell 1
    simp only [List.getElem?_toArray, List.getElem?_cons_zero, List.getElem?_cons_succ] at c1 c2 c3 c4
    have hz : r1 = 0 := by rename_i h; simpa using h
    have hd := H.out
    rw [if_pos hz] at hd
    have Hg := (((Grw.refl w).alloc _).alloc _).trans hg
    clear hb hg hr H
    rw [rounds_succ]
    go_wp2_with (go_at_fn 128; refine (hk _).mono ?_; rintro e w'' ⟨rfl, hg2⟩)
    · go_ret
      exact ⟨ret_int hd.symm, Hg.trans hg2⟩
    · have hz2 : r2 = 0 := by rename_i h; simpa using h
      rw [rounds_succ]
      go_wp2
      go_ret
      exact ⟨ret_int (by omega), Hg.trans hg2⟩
end Go.Proofs.YtldfaaahmpncbaaGreat

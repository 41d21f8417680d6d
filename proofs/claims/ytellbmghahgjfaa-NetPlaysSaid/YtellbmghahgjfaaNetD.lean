/-
  net's small functions: none, has, look, Lost, Line, New, Copy.
-/
import Derived.Test.YtellbmghahgjfaaNetC
import Derived.Deep.QuietTactic
import Derived.BigQuiet
namespace Go.Proofs.Ytellbmghahgjfaa
open Go.RowKit Go.Maps Go.WideShapes Go.WideMaps
open NetM
set_option linter.unusedVariables false
set_option linter.unusedSimpArgs false
set_option maxRecDepth 20000

section
variable {w w' : World} {p b : Nat} {E lost : Int} {K : Kl} {V : List (Fl Pl)} {G : Nat → Prop}
theorem Nt.c0 (h : Nt w p b E lost K V G) : w.cell? ⟨p, 0, none⟩ = some (.int .i64 E) := by rw [h.blk.cell]; rfl
theorem Nt.c1 (h : Nt w p b E lost K V G) : w.cell? ⟨p, 1, none⟩ = some (.map (some b)) := by rw [h.blk.cell]; rfl
theorem Nt.c2 (h : Nt w p b E lost K V G) : w.cell? ⟨p, 2, none⟩ = some (.int .i64 lost) := by rw [h.blk.cell]; rfl
/-- No net: nil, or a zero one. -/
def NoN (w : World) (v : Value) : Prop := v = .pointer none ∨ ∃ g, v = .pointer (some ⟨g, 0, none⟩) ∧ Blk w g 55 #[.int .i64 0, .map none, .int .i64 0]
theorem NoN.below {v : Value} (h : NoN w v) (hb : Below w.heap.size w w') : NoN w' v := by
  rcases h with rfl | ⟨g, rfl, hg⟩
  · exact .inl rfl
  · exact .inr ⟨g, rfl, hg.below hb hg.lt⟩
theorem none_any (h : Nt w p b E lost K V G) : Calls Try.prog 29 #[.pointer (some ⟨p, 0, none⟩)] w fun e w' => e = .returned (.bool false) ∧ w' = w := by
  have q0 := h.c0
  have hE : (E == 0) = false := by have := h.ends.1; simp; omega
  go_enter Try.func29, Try.ntmps29
  go_wp2
  go_ret
  exact ⟨rfl, rfl⟩
theorem none_no {v : Value} (h : NoN w v) : Calls Try.prog 29 #[v] w fun e w' => e = .returned (.bool true) ∧ w' = w := by
  rcases h with rfl | ⟨g, rfl, hg⟩
  · go_enter Try.func29, Try.ntmps29
    go_wp2
    go_ret
    exact ⟨rfl, rfl⟩
  · have q0 : w.cell? ⟨g, 0, none⟩ = some (.int .i64 0) := by rw [hg.cell]; rfl
    go_enter Try.func29, Try.ntmps29
    go_wp2
    go_ret
    exact ⟨rfl, rfl⟩
/-- Is there such an end? -/
def hasB (E e : Int) : Bool := decide (1 ≤ e ∧ e ≤ E)
theorem has_1 {E e : Int} (h : e < 1) : hasB E e = false := decide_eq_false (by omega)
theorem has_2 {E e : Int} (h : 1 ≤ e) : hasB E e = decide (e ≤ E) := decide_eq_decide.2 ⟨fun h => h.2, fun h2 => ⟨h, h2⟩⟩
theorem has_any (h : Nt w p b E lost K V G) (e : Int) : Calls Try.prog 37 #[.pointer (some ⟨p, 0, none⟩), .int .i64 e] w fun r w' => r = .returned (.bool (hasB E e)) ∧ w' = w := by
  have q0 := h.c0
  go_enter Try.func37, Try.ntmps37
  go_wp2
  all_goals go_ret
  all_goals refine ⟨congrArg (fun b => Ending.returned (.bool b)) ?_, rfl⟩
  · exact (has_2 (by omega)).symm
  · exact (has_1 (by omega)).symm
theorem info_net : (Try.prog.info? 55).map (·.size) = some 3 := by kernel_rfl
theorem net_f1 (a b c : Value) (W : World) : (Instr.field 55 (.agg #[a, b, c]) 1).run Try.prog W = .ok b W := by kernel_rfl
theorem net_f2 (a b c : Value) (W : World) : (Instr.field 55 (.agg #[a, b, c]) 2).run Try.prog W = .ok c W := by kernel_rfl
theorem look_any (h : Nt w p b E lost K V G) : Calls Try.prog 43 #[.pointer (some ⟨p, 0, none⟩)] w fun e w' => e = .returned ((.agg #[.int .i64 E, .map (some b), .int .i64 lost])) ∧ Below w.heap.size w w' := by
  have hn := fun {x : Obj} => none_any (h.below (show Below w.heap.size w (w.alloc x) from (Below.refl _ _).alloc (Nat.le_refl _) _))
  have q0 := h.c0
  have q1 := h.c1
  have q2 := h.c2
  have hlt := h.blk.lt
  go_enter Try.func43, Try.ntmps43
  go_wp2_with (go_at_call 29; refine hn.mono ?_; rintro e w2 ⟨rfl, rfl⟩)
  exact bodyPost_ret (v := (.agg #[.int .i64 E, .map (some b), .int .i64 lost])) (results_cell_row rfl _ _ w.heap.size 55 _ (0, 0) _ rfl (heap_alloc_new w _) Try.underlying55 rfl info_net) rfl ⟨rfl, (Below.refl _ _).alloc (Nat.le_refl _) _⟩
theorem look_no {v : Value} (h : NoN w v) : Calls Try.prog 43 #[v] w fun e w' => e = .returned ((.agg #[.int .i64 0, .map none, .int .i64 0])) ∧ Below w.heap.size w w' := by
  have hn := fun {x : Obj} => none_no (h.below (show Below w.heap.size w (w.alloc x) from (Below.refl _ _).alloc (Nat.le_refl _) _))
  go_enter Try.func43, Try.ntmps43
  go_wp2_with (go_at_call 29; refine hn.mono ?_; rintro e w2 ⟨rfl, rfl⟩)
  exact bodyPost_ret (v := (.agg #[.int .i64 0, .map none, .int .i64 0])) (results_cell_row rfl _ _ w.heap.size 55 _ (0, 0) _ rfl (heap_alloc_new w _) Try.underlying55 rfl info_net) rfl ⟨rfl, (Below.refl _ _).alloc (Nat.le_refl _) _⟩
theorem lost_any (h : Nt w p b E lost K V G) : Calls Try.prog 22 #[.pointer (some ⟨p, 0, none⟩)] w fun e w' => e = .returned (.int .i64 lost) ∧ Below w.heap.size w w' := by
  have hk := look_any h
  have hsf : ∀ a b c W, (Instr.field 55 (.agg #[a, b, c]) 2).run Try.prog W = .ok c W := fun a b c W => net_f2 a b c W
  go_enter Try.func22, Try.ntmps22
  go_wp2_with (go_at_call 43; refine hk.mono ?_; rintro e w2 ⟨rfl, hb⟩)
  go_ret
  exact ⟨rfl, hb⟩
theorem lost_no {v : Value} (h : NoN w v) : Calls Try.prog 22 #[v] w fun e w' => e = .returned (.int .i64 0) ∧ Below w.heap.size w w' := by
  have hk := look_no h
  have hsf : ∀ a b c W, (Instr.field 55 (.agg #[a, b, c]) 2).run Try.prog W = .ok c W := fun a b c W => net_f2 a b c W
  go_enter Try.func22, Try.ntmps22
  go_wp2_with (go_at_call 43; refine hk.mono ?_; rintro e w2 ⟨rfl, hb⟩)
  go_ret
  exact ⟨rfl, hb⟩
theorem line_any (h : Nt w p b E lost K V G) (q : Pr) (hq : OkP q) : Calls Try.prog 23 #[.pointer (some ⟨p, 0, none⟩), .int .i64 q.1, .int .i64 q.2] w fun e w' => e = .returned (.int .i64 ((lineOf V q).length : Int)) ∧ Below w.heap.size w w' := by
  have hk := look_any h
  have hl := h
  obtain ⟨A, c, hv⟩ := (h.row q).shape
  rw [List.length_map] at hv
  generalize (lineOf V q).length = n at hv ⊢
  have HL := Lib.hid (show ∀ W, Below w.heap.size w W → (Instr.lookup 53 (.map (some b)) (.agg #[.int .i64 q.1, .int .i64 q.2]) false).run Try.prog W = .ok (.slice A n c) W from fun W hb => by
    have := (h.below hb).look hq
    rw [hv] at this
    exact this)
  clear hv hl
  have hsf : ∀ a b c W, (Instr.field 55 (.agg #[a, b, c]) 1).run Try.prog W = .ok b W := fun a b c W => net_f1 a b c W
  go_enter Try.func23, Try.ntmps23
  go_wp2_with (go_at_call 43; refine hk.mono ?_; rintro e w2 ⟨rfl, hb⟩; have hlk := HL.out w2 hb)
  go_ret
  exact ⟨rfl, hb⟩
theorem look_nilmap (q : Pr) (hq : OkP q) (w : World) : (Instr.lookup 53 (.map none) (.agg #[.int .i64 q.1, .int .i64 q.2]) false).run Try.prog w = .ok (.slice none 0 0) w := by
  have hk := keyOf_pr hq
  have hz := zeroLn w
  have hu := Try.underlying53
  have hc := fun w => prK.check w false (v := pval q) (l := litP q) hk
  have hc2 := fun w => prK.check w true (v := pval q) (l := litP q) hk
  simp only [pval] at hc hc2
  simp [Instr.lookup, run_underlying hu, hc, hc2, hz, sv, nilS, Result.andThen, Instr.findKey, Instr.findNow]
theorem line_no {v : Value} (h : NoN w v) (i j : Int) (hij : OkP (i, j)) : Calls Try.prog 23 #[v, .int .i64 i, .int .i64 j] w fun e w' => e = .returned (.int .i64 0) ∧ Below w.heap.size w w' := by
  have hk := look_no h
  have hsf : ∀ a b c W, (Instr.field 55 (.agg #[a, b, c]) 1).run Try.prog W = .ok b W := fun a b c W => net_f1 a b c W
  have hlk := fun W => look_nilmap (i, j) hij W
  simp only at hlk
  go_enter Try.func23, Try.ntmps23
  go_wp2_with (go_at_call 43; refine hk.mono ?_; rintro e w2 ⟨rfl, hb⟩)
  go_ret
  exact ⟨rfl, hb⟩
theorem new_bad (E : Int) (hE : ¬ (1 ≤ E ∧ E ≤ 16)) (w : World) : Calls Try.prog 9 #[.int .i64 E] w fun e w' => e = .returned (.tuple #[.pointer none, .int .i64 2]) ∧ w' = w := by
  by_cases h1 : E < 1
  · go_enter Try.func9, Try.ntmps9
    go_wp2
    go_ret2
    exact ⟨rfl, rfl⟩
  · have h2 : 16 < E := by omega
    go_enter Try.func9, Try.ntmps9
    go_wp2
    go_ret2
    exact ⟨rfl, rfl⟩
theorem new_any (E : Int) (h1 : 1 ≤ E) (h2 : E ≤ 16) (w : World) : Calls Try.prog 9 #[.int .i64 E] w fun e w' => ∃ p b, e = .returned (.tuple #[.pointer (some ⟨p, 0, none⟩), .int .i64 0]) ∧ Nt w' p b E 0 [] [] (fun _ => False) ∧ Below w.heap.size w w' ∧ w.heap.size ≤ p ∧ w.heap.size ≤ b := by
  have hmm := @run_makeMap Try.prog
  go_enter Try.func9, Try.ntmps9
  go_wp2
  go_ret2
  refine ⟨w.heap.size + 1, w.heap.size, rfl, ?_, ((Below.refl _ _).alloc (Nat.le_refl _) _).alloc (by simp) _, by omega, Nat.le_refl _⟩
  have hm := World.ownsMap_made (P := Try.prog) (k := 61) (R := heldR) w
  have hbk := Blk.new (w.alloc (.map #[] 0)) 55 #[.int .i64 E, .map (some w.heap.size), .int .i64 0]
  rw [show (w.alloc (.map #[] 0)).heap.size = w.heap.size + 1 by simp] at hbk
  exact ⟨hbk, hm.alloc _, OkL.nil, by simp, fun q => SlK.nil _ _, by simp, (by rintro q i ⟨a, ha, _⟩; cases ha), by simp, (by intro i hi; cases hi), List.Pairwise.nil, by simp, ⟨h1, h2⟩, by simp, (by intro q; simp [lineOf]), Int.le_refl _⟩
end
end Go.Proofs.Ytellbmghahgjfaa

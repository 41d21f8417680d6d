/-
  The chapter's rows: minsterlaw09.known.
-/
import Derived.Test.YtigepbklpiilpaaEvBef
import Derived.Deep.Cut
namespace Go.Proofs.Ytigepbklpiilpaa
open Go.RowKit
open CtxM
set_option linter.unusedVariables false
set_option linter.unusedSimpArgs false
set_option maxRecDepth 20000

def z16 (a b : Nat) : List Nat := [a, b, 0, 0, 0, 0, 0, 0, 0, 0, 0, 0, 0, 0, 0, 0]
def knE : Ev := ⟨(2, 5), ⟨#[116]⟩, .slice none 0 0, [], z16 7 4, .slice none 0 0, []⟩
def knZ : Ev := ⟨(0, 0), ⟨#[]⟩, .slice none 0 0, [], z16 0 0, .slice none 0 0, []⟩
theorem toB_nil : toB [] = true := toB_yes ⟨by simp, fun j h => absurd h (by simp)⟩
theorem knE_B : evB knE = true := by
  unfold evB
  rw [show toB knE.T = true from toB_nil]
  decide
theorem knZ_B : evB knZ = false := by
  unfold evB
  rw [show decide (PastOk knZ.id knZ.V) = false by decide]
  rfl
theorem knE_ok (w : World) : EvOk w knE := ⟨Sl.nil _ _, Se.nil _ _, rfl, by decide⟩
theorem knZ_ok (w : World) : EvOk w knZ := ⟨Sl.nil _ _, Se.nil _ _, rfl, by decide⟩
theorem kn_1 : rdyB knE (z16 7 4) = true := by unfold rdyB; rw [knE_B]; decide
theorem kn_2 : rdyB knE (z16 6 4) = false := by unfold rdyB; rw [knE_B]; decide
theorem kn_3 : rdyB knE (z16 7 5) = false := by unfold rdyB; rw [knE_B]; decide

theorem wpList_build_g {P : Program} {ops : Array Oper} {rest : List Oper} {o : Oper} {a : Act} {w : World} {Q : Exit → Act → World → Prop} (n : Nat) (hn : o.dst = some n) (hw : Region.wanted o (yielded ops a.tmps) = true) (t : TypeId) (parts : Array (Nat × Operand)) (ho : o.op = .build t parts)
    (cells : Array Value) (hc : P.built t (parts.map fun (i, x) => (i, a.eval x)).toList = some cells) (h : wpList P ops Q rest (a.put o.dst (.agg cells)) w) : wpList P ops Q (o :: rest) a w :=
  BigFrame.wpList_want hw fun _ hK => wp_build t parts ho (by rw [hc]; rfl) (by rw [hc]; exact hK _ _ h)
theorem ev_all' {w : World} {g : Nat} {t : TypeId} {E : Array Value} (h : Blk w g t E) : w.rangeAt g 0 E.toList := fun j u hu => by
  rw [Nat.zero_add, h.cell]; simpa using hu
theorem drawn_setCells (g : Nat) : ∀ (l : List Value) (k : Nat) (W : World), (W.setCells g k l).drawn = W.drawn
  | [], k, W => rfl
  | v :: l, k, W => (drawn_setCells g l (k + 1) _).trans rfl
theorem bu_vec (a b : Nat) : Try.prog.built 27 [(0, .int .u64 (a : Int)), (1, .int .u64 (b : Int))] = some (uqs (z16 a b)) := by kernel_rfl
theorem bu_ev (V : Array Value) (hV : V = uqs (z16 7 4)) : Try.prog.built 30 [(0, .agg #[.int .i64 2, .int .u64 5]), (1, .string ⟨#[116]⟩), (3, .agg V)] = some (evc knE) := by
  subst hV
  kernel_rfl
theorem bu_z : Try.prog.built 30 [] = some (evc knZ) := by kernel_rfl

set_option maxHeartbeats 4000000 in
theorem known_any (w : World) : Calls Try.prog 8 #[] w fun e w' => e = .returned (.bool true) ∧ Grw w w' := by
  have h1 := fun W => eready_any knE (z16 7 4) W (knE_ok W) rfl (by decide)
  have h2 := fun W => eready_any knE (z16 6 4) W (knE_ok W) rfl (by decide)
  have h3 := fun W => eready_any knE (z16 7 5) W (knE_ok W) rfl (by decide)
  have h4 := fun W => eunder_any (z16 3 4) (2, 4) W rfl
  have h5 := fun W => eunder_any (z16 3 4) (2, 5) W rfl
  have h6 := fun W => emay_any knZ W (knZ_ok W)
  rw [kn_1] at h1
  rw [kn_2] at h2
  rw [kn_3] at h3
  rw [show decide (Und (z16 3 4) (2, 4)) = true by decide] at h4
  rw [show decide (Und (z16 3 4) (2, 5)) = false by decide] at h5
  rw [knZ_B] at h6
  have g1 := bu_vec 7 4
  have g2 := bu_vec 6 4
  have g3 := bu_vec 7 5
  have g4 := bu_vec 3 4
  have g5 := bu_ev _ rfl
  have g6 := bu_z
  have hEi : (Try.prog.info? 30).map (·.size) = some (evc knE).size := evc_info rfl
  have hEs : (evc knE).size = 21 := rfl
  have hE1 : (evc knE).all (·.oneCell') = true := by kernel_rfl
  generalize uqs (z16 7 4) = V1 at *
  generalize uqs (z16 6 4) = V2 at *
  generalize uqs (z16 7 5) = V3 at *
  generalize uqs (z16 3 4) = V4 at *
  generalize evc knE = E at *
  generalize evc knZ = Z at *
  have G1 := Lib.hid g1
  have G2 := Lib.hid g2
  have G3 := Lib.hid g3
  have G4 := Lib.hid g4
  have G5 := Lib.hid g5
  have G6 := Lib.hid g6
  have HS := Lib.hid hEs
  clear g1 g2 g3 g4 g5 g6 hEs
  go_enter Try.func8, Try.ntmps8
  go_upto_region 2 with (first | (refine wpList_build_g 5 rfl (by rfl) 27 _ rfl V1 (Eq.trans (by kernel_rfl) G1.out) ?_; try simp only [Act.put, List.setIfInBounds_toArray, List.set_cons_zero, List.set_cons_succ]) | (refine wpList_build_g 6 rfl (by rfl) 30 _ rfl E (Eq.trans (by kernel_rfl) G5.out) ?_; try simp only [Act.put, List.setIfInBounds_toArray, List.set_cons_zero, List.set_cons_succ]) | (refine wpList_store_mid rfl 30 _ _ rfl w.heap.size 0 E rfl rfl (by rw [HS.out]; exact (Blk.new _ _ _).there) hEi hE1 ?_))
  change Code.wp _ _ _ _ ((w.alloc (.cells (evc knZ) 30)).setCells w.heap.size 0 E.toList)
  have hB0 : Blk ((w.alloc (.cells (evc knZ) 30)).setCells w.heap.size 0 E.toList) w.heap.size 30 E := (Blk.new w 30 (evc knZ)).setRow (by rw [HS.out]; rfl)
  have hG0 : Grw w ((w.alloc (.cells (evc knZ) 30)).setCells w.heap.size 0 E.toList) := grw_of (Below.only ((Below.refl _ _).alloc (Nat.le_refl _) _) (grown_setCells _ _ _ _) (Nat.le_refl _) (by simp)) (by rw [drawn_setCells]; exact Nat.le_refl _)
  generalize (w.alloc (.cells (evc knZ) 30)).setCells w.heap.size 0 E.toList = W0 at hB0 hG0 ⊢
  go_upto_region 3 with fail
  have b2 := Blk.new W0 24 #[.int .i64 2, .int .u64 4]
  have b3 := Blk.new (W0.alloc (.cells #[.int .i64 2, .int .u64 4] 24)) 24 #[.int .i64 2, .int .u64 5]
  have b1 := (hB0.alloc (.cells #[.int .i64 2, .int .u64 4] 24)).alloc (.cells #[.int .i64 2, .int .u64 5] 24)
  replace b2 := b2.alloc (.cells #[.int .i64 2, .int .u64 5] 24)
  rw [show (W0.alloc (.cells #[.int .i64 2, .int .u64 4] 24)).heap.size = W0.heap.size + 1 by simp] at b3
  have hh1 := (hG0.alloc (.cells #[.int .i64 2, .int .u64 4] 24)).alloc (.cells #[.int .i64 2, .int .u64 5] 24)
  generalize (W0.alloc (.cells #[.int .i64 2, .int .u64 4] 24)).alloc (.cells #[.int .i64 2, .int .u64 5] 24) = w1 at b1 b2 b3 hh1 ⊢
  have K2 : ∀ W, Grw w1 W → Blk W w.heap.size 30 E ∧ W.cell? ⟨W0.heap.size, 0, none⟩ = some (.int .i64 2) ∧ W.cell? ⟨W0.heap.size, 1, none⟩ = some (.int .u64 4) ∧ W.cell? ⟨W0.heap.size + 1, 0, none⟩ = some (.int .i64 2) ∧ W.cell? ⟨W0.heap.size + 1, 1, none⟩ = some (.int .u64 5) := by
    intro W h
    have k1 := b1.below h.below b1.lt
    have k2 := b2.below h.below b2.lt
    have k3 := b3.below h.below b3.lt
    exact ⟨k1, by rw [k2.cell]; rfl, by rw [k2.cell]; rfl, by rw [k3.cell]; rfl, by rw [k3.cell]; rfl⟩
  have hB1 := b1
  have j1 := Grw.refl w1
  have HG := Lib.hid hh1
  clear b1 b2 b3 hh1 hG0 hB0
  go_wp2_with (first | (refine wpList_load_mid_g (by rfl) 30 _ rfl w.heap.size 0 rfl E _ (ev_all' hB1) Try.underlying30 rfl hEi ?_; try simp only [Act.put, List.setIfInBounds_toArray, List.set_cons_zero, List.set_cons_succ]) | (refine wpList_load_mid_g (by rfl) 30 _ rfl w.heap.size 0 rfl E _ (ev_all' hB2) Try.underlying30 rfl hEi ?_; try simp only [Act.put, List.setIfInBounds_toArray, List.set_cons_zero, List.set_cons_succ]) | (refine wpList_load_mid_g (by rfl) 30 _ rfl w.heap.size 0 rfl E _ (ev_all' hB3) Try.underlying30 rfl hEi ?_; try simp only [Act.put, List.setIfInBounds_toArray, List.set_cons_zero, List.set_cons_succ]) | (refine wpList_load_mid_g (by rfl) 30 _ rfl w.heap.size 0 rfl E _ (ev_all' hB4) Try.underlying30 rfl hEi ?_; try simp only [Act.put, List.setIfInBounds_toArray, List.set_cons_zero, List.set_cons_succ]) | (refine wpList_load_mid_g (by rfl) 30 _ rfl w.heap.size 0 rfl E _ (ev_all' hB5) Try.underlying30 rfl hEi ?_; try simp only [Act.put, List.setIfInBounds_toArray, List.set_cons_zero, List.set_cons_succ]) | (refine wpList_load_mid_g (by rfl) 30 _ rfl w.heap.size 0 rfl E _ (ev_all' hB6) Try.underlying30 rfl hEi ?_; try simp only [Act.put, List.setIfInBounds_toArray, List.set_cons_zero, List.set_cons_succ]) | (refine wpList_build_g 10 rfl (by rfl) 27 _ rfl V1 (Eq.trans (by kernel_rfl) G1.out) ?_; try simp only [Act.put, List.setIfInBounds_toArray, List.set_cons_zero, List.set_cons_succ]) | (refine wpList_build_g 14 rfl (by rfl) 27 _ rfl V2 (Eq.trans (by kernel_rfl) G2.out) ?_; try simp only [Act.put, List.setIfInBounds_toArray, List.set_cons_zero, List.set_cons_succ]) | (refine wpList_build_g 20 rfl (by rfl) 27 _ rfl V3 (Eq.trans (by kernel_rfl) G3.out) ?_; try simp only [Act.put, List.setIfInBounds_toArray, List.set_cons_zero, List.set_cons_succ]) | (refine wpList_build_g 25 rfl (by rfl) 27 _ rfl V4 (Eq.trans (by kernel_rfl) G4.out) ?_; try simp only [Act.put, List.setIfInBounds_toArray, List.set_cons_zero, List.set_cons_succ]) | (refine wpList_build_g 30 rfl (by rfl) 27 _ rfl V4 (Eq.trans (by kernel_rfl) G4.out) ?_; try simp only [Act.put, List.setIfInBounds_toArray, List.set_cons_zero, List.set_cons_succ]) | (refine wpList_build_g 36 rfl (by rfl) 30 _ rfl Z (Eq.trans (by kernel_rfl) G6.out) ?_; try simp only [Act.put, List.setIfInBounds_toArray, List.set_cons_zero, List.set_cons_succ]) | (go_at_call_of 23 (Value.agg V1); refine (h1 _).mono ?_; rintro e w2 ⟨rfl, hg2⟩; have j2 := j1.trans hg2; have hB2 := (K2 _ j2).1; have p2 := (K2 _ j2).2.1; have r2 := (K2 _ j2).2.2.1; have s2 := (K2 _ j2).2.2.2.1; have t2 := (K2 _ j2).2.2.2.2) | (go_at_call_of 23 (Value.agg V2); refine (h2 _).mono ?_; rintro e w3 ⟨rfl, hg3⟩; have j3 := j2.trans hg3; have hB3 := (K2 _ j3).1; have p3 := (K2 _ j3).2.1; have r3 := (K2 _ j3).2.2.1; have s3 := (K2 _ j3).2.2.2.1; have t3 := (K2 _ j3).2.2.2.2) | (go_at_call_of 23 (Value.agg V3); refine (h3 _).mono ?_; rintro e w4 ⟨rfl, hg4⟩; have j4 := j3.trans hg4; have hB4 := (K2 _ j4).1; have p4 := (K2 _ j4).2.1; have r4 := (K2 _ j4).2.2.1; have s4 := (K2 _ j4).2.2.2.1; have t4 := (K2 _ j4).2.2.2.2) | (go_at_call_of 20 (Value.agg #[Value.int IntKind.i64 2, Value.int IntKind.u64 4]); refine (h4 _).mono ?_; rintro e w5 ⟨rfl, hg5⟩; have j5 := j4.trans hg5; have hB5 := (K2 _ j5).1; have p5 := (K2 _ j5).2.1; have r5 := (K2 _ j5).2.2.1; have s5 := (K2 _ j5).2.2.2.1; have t5 := (K2 _ j5).2.2.2.2) | (go_at_call_of 20 (Value.agg #[Value.int IntKind.i64 2, Value.int IntKind.u64 5]); refine (h5 _).mono ?_; rintro e w6 ⟨rfl, hg6⟩; have j6 := j5.trans hg6; have hB6 := (K2 _ j6).1; have p6 := (K2 _ j6).2.1; have r6 := (K2 _ j6).2.2.1; have s6 := (K2 _ j6).2.2.2.1; have t6 := (K2 _ j6).2.2.2.2) | (go_at_call 10; refine (h6 _).mono ?_; rintro e w7 ⟨rfl, hg7⟩; have j7 := j6.trans hg7))
  go_ret
  exact ⟨rfl, HG.out.trans j7⟩
end Go.Proofs.Ytigepbklpiilpaa

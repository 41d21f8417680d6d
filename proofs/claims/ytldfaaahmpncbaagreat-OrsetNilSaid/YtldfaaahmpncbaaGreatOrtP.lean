/-
  What a set that is none answers to its looks.
-/
import Derived.Test.YtldfaaahmpncbaaGreatOrtAD
import Derived.Laws.IdiomRangeMap
namespace Go.Proofs.YtldfaaahmpncbaaGreat
open Go.RowKit Go.Maps Go.Sort
open CtxM
set_option linter.unusedVariables false
set_option linter.unusedSimpArgs false
set_option maxRecDepth 100000
attribute [local go_sem] Oper.semAt_some
set_option maxHeartbeats 1000000 in
theorem pickKnk_in (n : Nat) (l Bm : Nat) (J Jx : List Dt → World → Prop) (W : World) (B0 : Nat) (hB0 : B0 ≤ W.heap.size) (hJ : ∀ s A B, J s A → StM B0 A B → J s B) (hm : W.cell? ⟨Bm, 0, none⟩ = some (.map none)) (h0 : J [] W) :
    CallsIn Fence.wide n Tryz.prog 121 #[.func (.yield l) #[] #[], .pointer (some ⟨Bm, 0, none⟩)] W fun e W' => (∃ v, e = .returned v) ∧ ((∃ ss : List Dt, ss = [] ∧ J ss W') ∨ (∃ pre : List Dt, True ∧ Jx pre W')) := by
  refine callsIn_of_wp Tryz.func121 rfl trivial ?_ rfl
  simp only [Tryz.ntmps121, List.size_toArray, List.length_cons, List.length_nil, Nat.reduceAdd, Nat.reduceSub, Array.replicate_succ, Array.replicate_zero, List.push_toArray, List.append_toArray, List.nil_append, List.cons_append]
  have hrg := run_range_nilMap (P := Tryz.prog) W 81 41 39 Tryz.underlying81
  have hnx : ∀ ty, (Instr.next (.pointer (some ⟨W.heap.size, 0, none⟩)) false ty).run Tryz.prog (W.alloc (.mapIter none 0 #[] 0)) = _ := fun ty => run_next_nilMap _ ty 0 0 #[]
  gi_wp2
  refine wpIn_loop_rounds 1 ?_
  rw [roundsIn_succ]
  gi_wp2
  go_end0
  exact ⟨⟨_, rfl⟩, .inl ⟨[], rfl, hJ [] W _ h0 (.none (World.grownBy_alloc W _ none))⟩⟩
set_option maxHeartbeats 1000000 in
theorem pickUnk_in (n : Nat) (l Bm : Nat) (J Jx : List Dt → World → Prop) (W : World) (B0 : Nat) (hB0 : B0 ≤ W.heap.size) (hJ : ∀ s A B, J s A → StM B0 A B → J s B) (hm : W.cell? ⟨Bm, 0, none⟩ = some (.map none)) (h0 : J [] W) :
    CallsIn Fence.wide n Tryz.prog 123 #[.func (.yield l) #[] #[], .pointer (some ⟨Bm, 0, none⟩)] W fun e W' => (∃ v, e = .returned v) ∧ ((∃ ss : List Dt, ss = [] ∧ J ss W') ∨ (∃ pre : List Dt, True ∧ Jx pre W')) := by
  refine callsIn_of_wp Tryz.func123 rfl trivial ?_ rfl
  simp only [Tryz.ntmps123, List.size_toArray, List.length_cons, List.length_nil, Nat.reduceAdd, Nat.reduceSub, Array.replicate_succ, Array.replicate_zero, List.push_toArray, List.append_toArray, List.nil_append, List.cons_append]
  have hrg := run_range_nilMap (P := Tryz.prog) W 82 41 93 Tryz.underlying82
  have hnx : ∀ ty, (Instr.next (.pointer (some ⟨W.heap.size, 0, none⟩)) false ty).run Tryz.prog (W.alloc (.mapIter none 0 #[] 0)) = _ := fun ty => run_next_nilMap _ ty 0 0 #[]
  gi_wp2
  refine wpIn_loop_rounds 1 ?_
  rw [roundsIn_succ]
  gi_wp2
  go_end0
  exact ⟨⟨_, rfl⟩, .inl ⟨[], rfl, hJ [] W _ h0 (.none (World.grownBy_alloc W _ none))⟩⟩
set_option maxHeartbeats 1000000 in
theorem valsn_in (n : Nat) (l Bm : Nat) (J Jx : List Ky → World → Prop) (W : World) (B0 : Nat) (hB0 : B0 ≤ W.heap.size) (hJ : ∀ s A B, J s A → StM B0 A B → J s B) (hm : W.cell? ⟨Bm, 0, none⟩ = some (.map none)) (h0 : J [] W) :
    CallsIn Fence.wide n Tryz.prog 106 #[.func (.yield l) #[] #[], .pointer (some ⟨Bm, 0, none⟩)] W fun e W' => (∃ v, e = .returned v) ∧ ((∃ ss : List Ky, ss = [] ∧ J ss W') ∨ (∃ pre : List Ky, True ∧ Jx pre W')) := by
  refine callsIn_of_wp Tryz.func106 rfl trivial ?_ rfl
  simp only [Tryz.ntmps106, List.size_toArray, List.length_cons, List.length_nil, Nat.reduceAdd, Nat.reduceSub, Array.replicate_succ, Array.replicate_zero, List.push_toArray, List.append_toArray, List.nil_append, List.cons_append]
  have hrg := run_range_nilMap (P := Tryz.prog) W 81 41 39 Tryz.underlying81
  have hnx : ∀ ty, (Instr.next (.pointer (some ⟨W.heap.size, 0, none⟩)) false ty).run Tryz.prog (W.alloc (.mapIter none 0 #[] 0)) = _ := fun ty => run_next_nilMap _ ty 0 0 #[]
  gi_wp2
  refine wpIn_loop_rounds 1 ?_
  rw [roundsIn_succ]
  gi_wp2
  go_end0
  exact ⟨⟨_, rfl⟩, .inl ⟨[], rfl, hJ [] W _ h0 (.none (World.grownBy_alloc W _ none))⟩⟩
theorem pickKnk_seq (n : Nat) (Bm : Nat) (w : World) (hm : w.cell? ⟨Bm, 0, none⟩ = some (.map none)) :
    SeqX Fence.wide n Tryz.prog 121 #[.pointer (some ⟨Bm, 0, none⟩)] encDt (fun x _ => OkD x) (StM w.heap.size) KeepsWalks (fun ss : List Dt => ss = []) (fun _ => True) 0 w := by
  intro l J Jx W hW hJ hJx hY h0
  exact pickKnk_in n l Bm J Jx W w.heap.size hW.size hJ ((hW.cell (World.block_lt_of_cell? w _ hm)).trans hm) h0
theorem pickUnk_seq (n : Nat) (Bm : Nat) (w : World) (hm : w.cell? ⟨Bm, 0, none⟩ = some (.map none)) :
    SeqX Fence.wide n Tryz.prog 123 #[.pointer (some ⟨Bm, 0, none⟩)] encDt (fun x _ => OkD x) (StM w.heap.size) KeepsWalks (fun ss : List Dt => ss = []) (fun _ => True) 0 w := by
  intro l J Jx W hW hJ hJx hY h0
  exact pickUnk_in n l Bm J Jx W w.heap.size hW.size hJ ((hW.cell (World.block_lt_of_cell? w _ hm)).trans hm) h0
theorem valsn_seq (n : Nat) (Bm : Nat) (w : World) (hm : w.cell? ⟨Bm, 0, none⟩ = some (.map none)) :
    SeqX Fence.wide n Tryz.prog 106 #[.pointer (some ⟨Bm, 0, none⟩)] encKy (fun x _ => True) (StM w.heap.size) KeepsWalks (fun ss : List Ky => ss = []) (fun _ => True) 0 w := by
  intro l J Jx W hW hJ hJx hY h0
  exact valsn_in n l Bm J Jx W w.heap.size hW.size hJ ((hW.cell (World.block_lt_of_cell? w _ hm)).trans hm) h0
set_option maxHeartbeats 1000000 in
theorem pickKn {gi : Nat} {lbi : Array Value} (w : World) :
    Calls Tryz.prog 66 #[.map none, .func (.func gi) #[] lbi] w fun e w' => ∃ v, e = .returned v ∧ OwnD w' w.heap.size v [] ∧ Below w.heap.size w w' := by
  have hmf : ∀ (fn : Fn) (first cap : Array Value) (w : World), (Instr.makeFunc fn first cap).run Tryz.prog w = .ok (.func fn first cap) w := fun _ _ _ _ => rfl
  have hb0 : Below w.heap.size w (w.alloc (.cells #[.func (.func gi) #[] lbi] 53)) := (Below.refl _ _).alloc (Nat.le_refl _) _
  have hbx := Blk.new w 53 #[.func (.func gi) #[] lbi]
  go_enter Tryz.func66, Tryz.ntmps66
  go_upto_region 1 with fail
  change Code.wp _ _ _ _ (w.alloc (.cells #[.func (.func gi) #[] lbi] 53))
  generalize w.alloc (.cells #[.func (.func gi) #[] lbi] 53) = w1 at hb0 hbx ⊢
  go_wp2_with fail
  refine (keysK_any none w1).mono ?_
  rintro e w2 ⟨rfl, rfl⟩
  have hb2 := hb0.alloc hb0.size (.cells #[.map none] 81)
  have hbm := Blk.new w1 81 #[.map none]
  have HG := Lib.hid (collectD_any enter_keysK (N := 0) (by omega) _ (pickKnk_seq 7 w1.heap.size _ (hbm.cell 0)))
  have hbx2 := hbx.alloc (.cells #[.map none] 81)
  clear hbx hb0 hbm
  generalize w1.alloc (.cells #[.map none] 81) = w2 at hb2 hbx2 HG ⊢
  go_wp2_with fail
  refine HG.out.mono ?_
  rintro e w3 ⟨v3, ss, rfl, hss, ho3, hb3⟩
  subst hss
  have hb03 := hb2.trans (hb3.mono hb2.size)
  have hbx3 := hbx2.below hb3 hbx2.lt
  have HD := Lib.hid (deleteFunc_any (gf := 99) (cv := .pointer (some ⟨w.heap.size, 0, none⟩)) (q := fun _ => true) (C := fun X => Below w.heap.size w X) enter_pickK v3 [] w2.heap.size w3 ho3 (by simp) hb03
    (fun X X' h hb => h.trans (hb.mono h.size)) (fun X X' h hg => h.grown hg h.size (fun k e => Nat.le_trans hb2.size (ho3.lt k e).1)) (fun d hd => absurd hd (by simp)))
  have hz := hb2.size
  obtain ⟨A3, n3, c3, rfl⟩ := ho3.shape
  clear HG hbx2 hb2 hb3 ho3 hb03
  go_wp2_with fail
  refine HD.out.mono ?_
  rintro e w4 ⟨v4, rfl, ho4, hob, hg4, hc4⟩
  have HS := Lib.hid (osort_any v4 _ w2.heap.size w4 ho4 (by simp [stay]))
  have hlt4 := fun k e => (ho4.lt k e).1
  obtain ⟨A4, n4, c4, rfl⟩ := ho4.shape
  clear HD ho4 hob hg4
  go_wp2_with fail
  refine HS.out.mono ?_
  rintro e w5 ⟨rfl, M, ho5, hord, hperm, _, hmem, hg5⟩
  have hM : M = [] := List.Perm.eq_nil (by simpa [stay] using hperm)
  subst hM
  have HO := Lib.hid (And.intro (ho5.mono hz) (hc4.grown hg5 hc4.size (fun k e => Nat.le_trans hz (hlt4 k e))))
  clear HS ho5 hord hperm hmem hg5 hc4 hlt4
  go_wp2
  go_ret
  exact ⟨_, rfl, HO.out⟩
set_option maxHeartbeats 1000000 in
theorem pickUn {gi : Nat} {lbi : Array Value} (w : World) :
    Calls Tryz.prog 68 #[.map none, .func (.func gi) #[] lbi] w fun e w' => ∃ v, e = .returned v ∧ OwnD w' w.heap.size v [] ∧ Below w.heap.size w w' := by
  have hmf : ∀ (fn : Fn) (first cap : Array Value) (w : World), (Instr.makeFunc fn first cap).run Tryz.prog w = .ok (.func fn first cap) w := fun _ _ _ _ => rfl
  have hb0 : Below w.heap.size w (w.alloc (.cells #[.func (.func gi) #[] lbi] 53)) := (Below.refl _ _).alloc (Nat.le_refl _) _
  have hbx := Blk.new w 53 #[.func (.func gi) #[] lbi]
  go_enter Tryz.func68, Tryz.ntmps68
  go_upto_region 1 with fail
  change Code.wp _ _ _ _ (w.alloc (.cells #[.func (.func gi) #[] lbi] 53))
  generalize w.alloc (.cells #[.func (.func gi) #[] lbi] 53) = w1 at hb0 hbx ⊢
  go_wp2_with fail
  refine (keysU_any none w1).mono ?_
  rintro e w2 ⟨rfl, rfl⟩
  have hb2 := hb0.alloc hb0.size (.cells #[.map none] 82)
  have hbm := Blk.new w1 82 #[.map none]
  have HG := Lib.hid (collectD_any enter_keysU (N := 0) (by omega) _ (pickUnk_seq 7 w1.heap.size _ (hbm.cell 0)))
  have hbx2 := hbx.alloc (.cells #[.map none] 82)
  clear hbx hb0 hbm
  generalize w1.alloc (.cells #[.map none] 82) = w2 at hb2 hbx2 HG ⊢
  go_wp2_with fail
  refine HG.out.mono ?_
  rintro e w3 ⟨v3, ss, rfl, hss, ho3, hb3⟩
  subst hss
  have hb03 := hb2.trans (hb3.mono hb2.size)
  have hbx3 := hbx2.below hb3 hbx2.lt
  have HD := Lib.hid (deleteFunc_any (gf := 102) (cv := .pointer (some ⟨w.heap.size, 0, none⟩)) (q := fun _ => true) (C := fun X => Below w.heap.size w X) enter_pickU v3 [] w2.heap.size w3 ho3 (by simp) hb03
    (fun X X' h hb => h.trans (hb.mono h.size)) (fun X X' h hg => h.grown hg h.size (fun k e => Nat.le_trans hb2.size (ho3.lt k e).1)) (fun d hd => absurd hd (by simp)))
  have hz := hb2.size
  obtain ⟨A3, n3, c3, rfl⟩ := ho3.shape
  clear HG hbx2 hb2 hb3 ho3 hb03
  go_wp2_with fail
  refine HD.out.mono ?_
  rintro e w4 ⟨v4, rfl, ho4, hob, hg4, hc4⟩
  have HS := Lib.hid (osort_any v4 _ w2.heap.size w4 ho4 (by simp [stay]))
  have hlt4 := fun k e => (ho4.lt k e).1
  obtain ⟨A4, n4, c4, rfl⟩ := ho4.shape
  clear HD ho4 hob hg4
  go_wp2_with fail
  refine HS.out.mono ?_
  rintro e w5 ⟨rfl, M, ho5, hord, hperm, _, hmem, hg5⟩
  have hM : M = [] := List.Perm.eq_nil (by simpa [stay] using hperm)
  subst hM
  have HO := Lib.hid (And.intro (ho5.mono hz) (hc4.grown hg5 hc4.size (fun k e => Nat.le_trans hz (hlt4 k e))))
  clear HS ho5 hord hperm hmem hg5 hc4 hlt4
  go_wp2
  go_ret
  exact ⟨_, rfl, HO.out⟩
section
variable {w : World} {s : Value}
set_option maxHeartbeats 2000000 in
theorem nos_items (h : NoS w s) {gi : Nat} {lbi : Array Value} : Calls Tryz.prog 52 #[s, .func (.func gi) #[] lbi] w fun e w' => ∃ v, e = .returned v ∧ OwnK kIt w' w.heap.size v [] ∧ Below w.heap.size w w' := by
  have HL := Lib.hid (nos_look h)
  clear h
  go_enter Tryz.func52, Tryz.ntmps52
  go_wp2_with fail
  refine HL.out.mono ?_
  rintro e w1 ⟨rfl, hb1⟩
  clear HL
  go_upto_region 3 with fail
  have hb2 : Below w.heap.size w (w1.alloc (.cells #[.pointer none, .map none, .map none] 84)) := hb1.alloc hb1.size _
  have hfrom := Blk.new w1 84 #[.pointer none, .map none, .map none]
  change Code.wp _ _ _ _ (w1.alloc (.cells #[.pointer none, .map none, .map none] 84))
  generalize w1.alloc (.cells #[.pointer none, .map none, .map none] 84) = w2 at hb2 hfrom ⊢
  have q1 : w2.cell? ⟨w1.heap.size, 1, none⟩ = some (.map none) := by rw [hfrom.cell]; rfl
  clear hb1
  generalize w1.heap.size = gf at hfrom q1 ⊢
  go_wp2_with fail
  refine (pickKn w2).mono ?_
  rintro e w3 ⟨v3, rfl, ho3, hb3⟩
  have hb03 := hb2.trans (hb3.mono hb2.size)
  have hf3 := hfrom.below hb3 hfrom.lt
  have hsd := ho3.sd
  obtain ⟨A3, n3, c3, rfl⟩ := ho3.shape
  obtain rfl := hsd.len
  clear hsd ho3 hb2 hb3 hfrom q1
  have q2 : w3.cell? ⟨gf, 2, none⟩ = some (.map none) := by rw [hf3.cell]; rfl
  go_wp2_with fail
  refine wp_loop_rounds 1 ?_
  rw [rounds_succ]
  go_wp2_with fail
  refine (pickUn w3).mono ?_
  rintro e w4 ⟨v4, rfl, ho4, hb4⟩
  have hb04 := hb03.trans (hb4.mono hb03.size)
  have hsd := ho4.sd
  obtain ⟨A4, n4, c4, rfl⟩ := ho4.shape
  obtain rfl := hsd.len
  have hmf : ∀ (fn : Fn) (first cap : Array Value) (w : World), (Instr.makeFunc fn first cap).run Tryz.prog w = .ok (.func fn first cap) w := fun _ _ _ _ => rfl
  clear hsd ho4 hb4 hb03 hf3 q2
  go_wp2_with fail
  refine wp_loop_rounds 1 ?_
  rw [rounds_succ]
  have HS := Lib.hid (isort_any (.slice none 0 0) [] w.heap.size w4 OwnK.nil (by simp))
  go_wp2_with fail
  refine HS.out.mono ?_
  rintro e w7 ⟨rfl, Q, hoQ, hQs, hQp, hgQ⟩
  have hQ : Q = [] := hQp.eq_nil
  subst hQ
  have HO := Lib.hid (And.intro hoQ (hb04.grown hgQ hb04.size (fun i e => by cases e)))
  clear HS hoQ hQs hQp hgQ hb04
  go_wp2
  go_ret
  exact ⟨_, rfl, HO.out⟩
set_option maxHeartbeats 2000000 in
theorem nos_items_ (h : NoS w s) : Calls Tryz.prog 14 #[s] w fun e w' => ∃ v, e = .returned v ∧ OwnK kIt w' w.heap.size v [] ∧ Below w.heap.size w w' := by
  have HI := Lib.hid (nos_items h (gi := 53) (lbi := #[]))
  clear h
  go_enter Tryz.func14, Tryz.ntmps14
  go_wp2_with fail
  refine HI.out.mono ?_
  rintro e w2 ⟨vi, rfl, ho, hb⟩
  have HO := Lib.hid (And.intro ho hb)
  clear HI ho hb
  go_wp2
  go_ret
  exact ⟨_, rfl, HO.out⟩
set_option maxHeartbeats 2000000 in
theorem nos_tombs (h : NoS w s) : Calls Tryz.prog 31 #[s] w fun e w' => ∃ v, e = .returned v ∧ OwnD w' w.heap.size v [] ∧ Below w.heap.size w w' := by
  have HL := Lib.hid (nos_look h)
  clear h
  have hsf2 : ∀ a b c W, (Instr.field 84 (.agg #[a, b, c]) 2).run Tryz.prog W = .ok c W := fun a b c W => set_f2 a b c W
  go_enter Tryz.func31, Tryz.ntmps31
  go_wp2_with fail
  refine HL.out.mono ?_
  rintro e w1 ⟨rfl, hb1⟩
  clear HL
  go_wp2_with fail
  refine (pickUn w1).mono ?_
  rintro e w2 ⟨v2, rfl, ho, hb2⟩
  have HO := Lib.hid (And.intro (ho.mono hb1.size) (hb1.trans (hb2.mono hb1.size)))
  clear ho hb1 hb2
  go_wp2
  go_ret
  exact ⟨_, rfl, HO.out⟩
set_option maxHeartbeats 2000000 in
theorem nos_keys (h : NoS w s) : Calls Tryz.prog 39 #[s] w fun e w' => ∃ v, e = .returned v ∧ OwnK kKy w' w.heap.size v [] ∧ Below w.heap.size w w' := by
  have HL := Lib.hid (nos_look h)
  clear h
  have hsf1 : ∀ a b c W, (Instr.field 84 (.agg #[a, b, c]) 1).run Tryz.prog W = .ok b W := fun a b c W => set_f1 a b c W
  have hmf : ∀ (fn : Fn) (first cap : Array Value) (w : World), (Instr.makeFunc fn first cap).run Tryz.prog w = .ok (.func fn first cap) w := fun _ _ _ _ => rfl
  go_enter Tryz.func39, Tryz.ntmps39
  go_wp2_with fail
  refine HL.out.mono ?_
  rintro e w1 ⟨rfl, hb1⟩
  clear HL
  go_wp2_with fail
  refine (valsK_any none w1).mono ?_
  rintro e w2 ⟨rfl, rfl⟩
  have hbm := Blk.new w1 81 #[.map none]
  have hbA : Below w1.heap.size w1 (w1.alloc (.cells #[.map none] 81)) := (Below.refl _ _).alloc (Nat.le_refl _) _
  have HS := Lib.hid (sortedY_any 106 #[.pointer (some ⟨w1.heap.size, 0, none⟩)] (fun ss => ss = []) w1.heap.size w1 _ (Nat.le_refl _) (fun ss h => by subst h; simp)
    ((collectY_any enter_valsK (N := 0) (by omega) _ (valsn_seq 7 w1.heap.size _ (hbm.cell 0))).mono (by
      rintro e w' ⟨v, ss, rfl, h1, h2, h3⟩
      exact ⟨v, ss, rfl, h1, h2.mono hbA.size, hbA.trans (h3.mono hbA.size)⟩)))
  have HB1 := Lib.hid hb1
  clear hbm hbA hb1
  go_wp2_with fail
  refine HS.out.mono ?_
  rintro e w3 ⟨v3, ss, M, rfl, hss, hp, hord, ho3, hb3⟩
  subst hss
  have hM : M = [] := hp.eq_nil
  subst hM
  have HU := Lib.hid (uniq_anyY v3 [] w1.heap.size w3 (own_ky ho3) (by simp) hord)
  have HB3 := Lib.hid (HB1.out.trans (hb3.mono HB1.out.size))
  have HLO := Lib.hid (fun i e => (ho3.lt i e).1)
  obtain ⟨A, n, c, rfl⟩ := ho3.shape3
  clear HS hp hord ho3 hb3
  go_wp2_with fail
  refine HU.out.mono ?_
  rintro e w4 ⟨v4, N, rfl, ho4, hr, hm, hnl, hg⟩
  have hN : N = [] := List.eq_nil_of_length_eq_zero (by simpa using hnl)
  subst hN
  have HF := Lib.hid (And.intro ((ky_own ho4).mono HB1.out.size) (HB3.out.grown hg HB3.out.size (fun i e => Nat.le_trans HB1.out.size (HLO.out i e))))
  clear HU ho4 hr hm hg hnl
  go_wp2
  go_ret
  exact ⟨_, rfl, HF.out⟩
set_option maxHeartbeats 2000000 in
theorem nos_dests (h : NoS w s) (t : ByteArray) : Calls Tryz.prog 28 #[s, .string t] w fun e w' => e = .returned (.slice none 0 0) ∧ Below w.heap.size w w' := by
  have hb0 : Below w.heap.size w (w.alloc (.cells #[.string t] 9)) := (Below.refl _ _).alloc (Nat.le_refl _) _
  have HL := Lib.hid (nos_look (h.below hb0))
  clear h
  have hsf1 : ∀ a b c W, (Instr.field 84 (.agg #[a, b, c]) 1).run Tryz.prog W = .ok b W := fun a b c W => set_f1 a b c W
  have hmf : ∀ (fn : Fn) (first cap : Array Value) (w : World), (Instr.makeFunc fn first cap).run Tryz.prog w = .ok (.func fn first cap) w := fun _ _ _ _ => rfl
  go_enter Tryz.func28, Tryz.ntmps28
  go_wp2_with fail
  refine HL.out.mono ?_
  rintro e w1 ⟨rfl, hb1⟩
  have hb01 := hb0.trans (hb1.mono hb0.size)
  clear HL hb1 hb0
  go_upto_region 3 with fail
  have hb2 : Below w.heap.size w (w1.alloc (.cells #[.map none] 81)) := hb01.alloc hb01.size _
  have hbm := Blk.new w1 81 #[.map none]
  change Code.wp _ _ _ _ (w1.alloc (.cells #[.map none] 81))
  generalize w1.alloc (.cells #[.map none] 81) = w2 at hb2 hbm ⊢
  have q0 : w2.cell? ⟨w1.heap.size, 0, none⟩ = some (.map none) := by rw [hbm.cell]; rfl
  clear hbm hb01
  go_wp2_with fail
  refine (pickKn w2).mono ?_
  rintro e w3 ⟨v3, rfl, ho3, hb3⟩
  have hb03 := hb2.trans (hb3.mono hb2.size)
  have hsd := ho3.sd
  obtain ⟨A3, n3, c3, rfl⟩ := ho3.shape
  obtain rfl := hsd.len
  clear hsd ho3 hb2 hb3 q0
  go_wp2_with fail
  refine wp_loop_rounds 1 ?_
  rw [rounds_succ]
  go_wp2
  go_ret
  exact ⟨rfl, hb03⟩
set_option maxHeartbeats 2000000 in
theorem nos_has (h : NoS w s) (t u : ByteArray) : Calls Tryz.prog 19 #[s, .agg #[.string t, .string u]] w fun e w' => e = .returned (.bool false) ∧ Below w.heap.size w w' := by
  have hb0 : Below w.heap.size w (w.alloc (.cells #[.string t, .string u] 39)) := (Below.refl _ _).alloc (Nat.le_refl _) _
  have HL := Lib.hid (nos_look (h.below hb0))
  clear h
  have hsf1 : ∀ a b c W, (Instr.field 84 (.agg #[a, b, c]) 1).run Tryz.prog W = .ok b W := fun a b c W => set_f1 a b c W
  go_enter Tryz.func19, Tryz.ntmps19
  go_wp2_with fail
  refine HL.out.mono ?_
  rintro e w1 ⟨rfl, hb1⟩
  have hb01 := hb0.trans (hb1.mono hb0.size)
  have hrg := run_range_nilMap (P := Tryz.prog) w1 81 41 39 Tryz.underlying81
  have hnx : ∀ ty, (Instr.next (.pointer (some ⟨w1.heap.size, 0, none⟩)) false ty).run Tryz.prog (w1.alloc (.mapIter none 0 #[] 0)) = _ := fun ty => run_next_nilMap _ ty 0 0 #[]
  clear HL hb1 hb0
  go_wp2
  refine wp_loop_rounds 1 ?_
  rw [rounds_succ]
  go_wp2
  go_ret
  exact ⟨rfl, hb01.alloc hb01.size _⟩
end
end Go.Proofs.YtldfaaahmpncbaaGreat

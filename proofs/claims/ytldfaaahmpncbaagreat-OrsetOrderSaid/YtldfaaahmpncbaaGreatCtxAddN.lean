/-
  The walk of a context's Add, of the next dot of its region.
-/
import Derived.Test.YtldfaaahmpncbaaGreatCtxAdd
import Derived.Test.YtldfaaahmpncbaaGreatHeldA
namespace Go.Proofs.YtldfaaahmpncbaaGreat
open Go.RowKit
open CtxM
set_option linter.unusedVariables false
set_option linter.unusedSimpArgs false

theorem cxc_range {w : World} {g : Nat} {t : TypeId} {v : Value} {V : List Nat} (h : Blk w g t (cxc V v)) : w.rangeAt g 1 (V.map uq) := by
  intro j u hu
  have hj : j < V.length := by simpa using (List.getElem?_eq_some_iff.1 hu).1
  rw [h.cell, cxc]
  simp only [List.getElem?_toArray]
  rw [show 1 + j = j + 1 by omega, List.getElem?_cons_succ, List.getElem?_append_left (by simpa using hj)]
  exact hu
theorem cxc_extra {w : World} {g : Nat} {t : TypeId} {v : Value} {V : List Nat} (h : Blk w g t (cxc V v)) (hV : V.length = 16) : w.cell? ⟨g, 17, none⟩ = some v := by
  rw [h.cell, cxc]
  simp only [List.getElem?_toArray]
  rw [List.getElem?_cons_succ, List.getElem?_append_right (by simp [hV])]
  simp [hV]

set_option maxHeartbeats 2000000 in
set_option maxRecDepth 20000 in
theorem add_next (g : Nat) (v : Value) (V : List Nat) (X : List Dt) (d : Dt) (w : World) (hc : Cx w g v V X) (hM : May d) (he : d.2 = at_ V d.1 + 1) (hl : X.length ≤ 4096) :
    Calls Tryz.prog 41 #[.pointer (some ⟨g, 0, none⟩), .agg #[.int .i64 d.1, .int .u64 (d.2 : Int)]] w fun e w' => e = .returned (.tuple #[.bool true, .int .i64 0]) ∧ Added w w' g v (addF (V, X) d) := by
  have hn := fun W (hg : Grw w W) => none_at g true W (hc.below hg.below).made
  have hm := fun W => may_any d W
  have hI := next_not hc.fit he
  have hfo : Tryz.prog.follows .mixedOrders = true := by kernel_rfl
  rw [decide_eq_true hM] at hm
  have hh := fun W (hg : Grw w W) => has_any g v V X d W (hc.below hg.below) (by omega)
  rw [decide_eq_false hI] at hh
  have Hg := (Grw.refl w).alloc (.cells #[.int .i64 d.1, .int .u64 (d.2 : Int)] 41)
  have hB := Blk.new w 41 #[.int .i64 d.1, .int .u64 (d.2 : Int)]
  obtain ⟨k, hk⟩ : ∃ k : Nat, d.1 = (k : Int) + 1 := ⟨(d.1 - 1).toNat, by have := hM.1; omega⟩
  have hk16 : k < 16 := by have := hM.2.1; omega
  have hkk : (d.1 - 1).toNat = k := by omega
  have hnx := next_eq hc.fit hM he
  rw [hkk] at hnx
  have hmt : d.2 ≤ top := hM.2.2.2
  rw [hk] at he
  have HNX := Lib.hid hnx
  have HM := Lib.hid hM
  have HK := Lib.hid hk
  obtain ⟨m, hmm⟩ : ∃ m, m = at_ V ((k : Int) + 1) := ⟨_, rfl⟩
  have HMM := Lib.hid hmm
  rw [← hmm] at he
  have HE := Lib.hid he
  have hw1 : IntKind.u64.wrap ((m : Int) + 1) = (m : Int) + 1 := by rw [IntKind.wrap_u64]; unfold top at hmt; omega
  have he2 : (d.2 : Int) = (m : Int) + 1 := by omega
  have HE2 := Lib.hid he2
  have HC := Lib.hid hc
  clear hI hnx hM hkk hmt hc he he2 hk hmm
  go_enter Tryz.func41, Tryz.ntmps41
  go_wp2_with (first | (go_at_call 77; refine (hn _ Hg).mono ?_; rintro e w' ⟨rfl, rfl⟩) | (go_at_call 65; refine (hm _).mono ?_; rintro e w1 ⟨rfl, hg1⟩; have hB1 := hB.below hg1.below hB.lt; have q0 : w1.cell? ⟨w.heap.size, 0, none⟩ = some (.int .i64 d.1) := (by rw [hB1.cell]; rfl); have q1 : w1.cell? ⟨w.heap.size, 1, none⟩ = some (.int .u64 (d.2 : Int)) := (by rw [hB1.cell]; rfl)) | (go_at_call 42; refine (hh _ (Hg.trans hg1)).mono ?_; rintro e w2 ⟨rfl, hg2⟩))
  have Hw := (Hg.trans hg1).trans hg2
  have hB2 := hB1.below hg2.below hB1.lt
  have hc2 := HC.out.below Hw.below
  have hlt2 := Hw.below.size
  clear q0 q1 hB1 hB hg1 hg2 hn hm hh
  have p0 : w2.cell? ⟨w.heap.size, 0, none⟩ = some (.int .i64 ((k : Int) + 1)) := by rw [hB2.cell, ← HK.out]; rfl
  have p1 : w2.cell? ⟨w.heap.size, 1, none⟩ = some (.int .u64 ((m : Int) + 1)) := by rw [hB2.cell, ← HE2.out]; rfl
  have p2 := hc2.atk k hk16
  rw [← HMM.out] at p2
  go_wp2_with fail
  go_quiet (fail)
  clear p0 p1 p2
  go_wp2_with fail
  have hbw : Below w.heap.size w (w2.drewN nq).drew := (below_drewN Hw.below _).drew
  have hc3 : Cx (w2.drewN nq).drew g v V X := hc2.below ((below_drewN (Below.refl _ _) nq).drew)
  have hB3 : Blk (w2.drewN nq).drew w.heap.size 41 #[.int .i64 d.1, .int .u64 (d.2 : Int)] := hB2
  refine wp_region_still_tail 12 hfo (by kernel_rfl) ?_
  simp only [List.take_succ_cons, List.take_zero, List.drop_succ_cons, List.drop_zero]
  change wpStill _ _ (w2.drewN nq).drew (fun a' => wpList _ _ _ _ a' (w2.drewN nq).drew) _ _
  generalize (w2.drewN nq).drew = W3 at hbw hc3 hB3 ⊢
  clear hc2 hB2 Hw Hg
  have p0 : W3.cell? ⟨w.heap.size, 0, none⟩ = some (.int .i64 ((k : Int) + 1)) := by rw [hB3.cell, ← HK.out]; rfl
  have p2 := hc3.atk k hk16
  rw [← HMM.out] at p2
  have p3 := hc3.blk.frozen (1 + k)
  have hwk : IntKind.i64.wrap (k : Int) = (k : Int) := by rw [IntKind.wrap_i64]; omega
  have hk0 : (0 : Int) ≤ (k : Int) := by omega
  have hk1 : (k : Int) < 16 := by omega
  repeat still_step
  refine wpStill_nil ?_
  go_wp2_with fail
  have hglt := hc3.blk.lt
  have hgw : g < w.heap.size := HC.out.blk.lt
  have hvw := HC.out.row.lt
  have hB4 := blk_setOne hc3.blk k (m + 1) (by rw [hc3.fit.len]; exact hk16)
  rw [show (((m + 1 : Nat)) : Int) = (m : Int) + 1 from rfl] at hB4
  have hrow4 : OwnD (W3.setCell ⟨g, 1 + k, none⟩ (.int .u64 ((m : Int) + 1))) 0 v X := hc3.row.keep fun i hi => Below.heap_setCell _ _ _ i (fun e => hc3.ne (by rw [hi]; exact congrArg some e))
  have hk4 : Keep (fun i => i = g) w (W3.setCell ⟨g, 1 + k, none⟩ (.int .u64 ((m : Int) + 1))) := (Keep.of_below (S := fun i => i = g) (hbw.trans (Below.refl _ _))).trans (Keep.setCell (S := fun i => i = g) W3 ⟨g, 1 + k, none⟩ _ rfl) (fun _ h => h) (fun _ _ h => h)
  clear p0 p2 p3 hB3
  generalize W3.setCell ⟨g, 1 + k, none⟩ (.int .u64 ((m : Int) + 1)) = W4 at hB4 hrow4 hk4 ⊢
  have hV4 : (V.set k (m + 1)).length = 16 := by rw [List.length_set]; exact hc3.fit.len
  have hle4 : ∀ n ∈ V.set k (m + 1), n ≤ top := set_le hc3.fit.le (by have := HM.out.2.2.2; have := HE.out; omega) k
  obtain ⟨U, hU⟩ : ∃ U, U = V.set k (m + 1) := ⟨_, rfl⟩
  rw [← hU] at hV4 hle4 hB4
  have HU := Lib.hid hU
  clear hU
  have hrise := hc3.fit.rise
  have hmay := hc3.fit.may
  have hne := hc3.ne
  clear hc3 hbw
  refine wp_region_held_drew (S := fun _ => True) hfo trivial (fun _ => ?_)
  have hB5 : Blk W4.drew g 109 (cxc U v) := hB4
  have hrow5 : OwnD W4.drew 0 v X := hrow4
  have hk5 : Keep (fun i => i = g) w W4.drew := hk4.trans (Keep.of_below (S := fun i => i = g) (Below.refl _ _).drew) (fun _ h => h) (fun _ _ h => h)
  generalize W4.drew = W5 at hB5 hrow5 hk5 ⊢
  clear hB4 hrow4 hk4
  have hld := run_loadAt_mid (P := Tryz.prog) W5 g 1 97 (U.map uq) _ (cxc_range hB5) Tryz.underlying97 rfl (by rw [info_vec, List.length_map, hV4])
  have p1 := cxc_extra hB5 hV4
  refine' wpAnyH_take (i := 0) (oi := ⟨some 65, _, _, _, _, _⟩) (v := _) rfl (by kernel_rfl) (by kernel_rfl) (by kernel_rfl) (fun _ _ _ h => h) (Or.inl ⟨by rfl, ?y0⟩) trivial ?r0
  case y0 => (intro w' hSw; go_simp; try rfl)
  try simp only [Act.put, List.setIfInBounds_toArray, List.set_cons_zero, List.set_cons_succ]
  refine' wpAnyH_take (i := 1) (oi := ⟨some 66, _, _, _, _, _⟩) (v := _) rfl (by kernel_rfl) (by kernel_rfl) (by kernel_rfl) (fun _ _ _ h => h) (Or.inl ⟨by rfl, ?y1⟩) trivial ?r1
  case y1 => (intro w' hSw; go_simp; try rfl)
  try simp only [Act.put, List.setIfInBounds_toArray, List.set_cons_zero, List.set_cons_succ]
  refine' wpAnyH_take (i := 2) (oi := ⟨some 67, _, _, _, _, _⟩) (v := _) rfl (by kernel_rfl) (by kernel_rfl) (by kernel_rfl) (fun _ _ _ h => h) (Or.inl ⟨by rfl, ?y2⟩) trivial ?r2
  case y2 => (intro w' hSw; go_simp; try rfl)
  try simp only [Act.put, List.setIfInBounds_toArray, List.set_cons_zero, List.set_cons_succ]
  refine' wpAnyH_take (i := 3) (oi := ⟨some 68, _, _, _, _, _⟩) (v := _) rfl (by kernel_rfl) (by kernel_rfl) (by kernel_rfl) (fun _ _ _ h => h) (Or.inl ⟨by rfl, ?y3⟩) trivial ?r3
  case y3 => (intro w' hSw; go_simp; try rfl)
  try simp only [Act.put, List.setIfInBounds_toArray, List.set_cons_zero, List.set_cons_succ]
  refine' wpAnyH_take (i := 4) (oi := ⟨some 69, _, _, _, _, _⟩) (v := _) rfl (by kernel_rfl) (by kernel_rfl) (by kernel_rfl) (fun _ _ _ h => h) (Or.inl ⟨by rfl, ?y4⟩) trivial ?r4
  case y4 => (intro w' hSw; go_simp; try rfl)
  try simp only [Act.put, List.setIfInBounds_toArray, List.set_cons_zero, List.set_cons_succ]
  refine' wpAnyH_take (i := 6) (oi := ⟨some 71, _, _, _, _, _⟩) (v := _) rfl (by kernel_rfl) (by kernel_rfl) (by kernel_rfl) (fun _ _ _ h => h) (Or.inl ⟨by rfl, ?y6⟩) trivial ?r6
  case y6 => (intro w' hSw; go_simp; try rfl)
  try simp only [Act.put, List.setIfInBounds_toArray, List.set_cons_zero, List.set_cons_succ]
  refine' wpAnyH_take (i := 7) (oi := ⟨some 72, _, _, _, _, _⟩) (v := _) rfl (by kernel_rfl) (by kernel_rfl) (by kernel_rfl) (fun _ _ _ h => h) (Or.inl ⟨by rfl, ?y7⟩) trivial ?r7
  case y7 => (intro w' hSw; go_simp; try rfl)
  try simp only [Act.put, List.setIfInBounds_toArray, List.set_cons_zero, List.set_cons_succ]
  refine' wpAnyH_take (i := 8) (oi := ⟨some 73, _, _, _, _, _⟩) (v := _) rfl (by kernel_rfl) (by kernel_rfl) (by kernel_rfl) (fun _ _ _ h => h) (Or.inl ⟨by rfl, ?y8⟩) trivial ?r8
  case y8 => (intro w' hSw; go_simp; try rfl)
  try simp only [Act.put, List.setIfInBounds_toArray, List.set_cons_zero, List.set_cons_succ]
  have hcv := cxc_range hB5
  refine held_two (i := 5) (j := 9) (by kernel_rfl) rfl rfl (fun K hK => ?_) (fun K hK => ?_)
  case' r8.refine_1 =>
    refine held_wanted rfl (wp_load_mid 97 (.tmp 69) rfl g 1 rfl (U.map uq) _ hcv Tryz.underlying97 rfl (by rw [info_vec, List.length_map, hV4]) ?_)
    refine hK.out _ _ trivial (fun _ => ?_)
    clear hK K
    try simp only [Act.put, List.setIfInBounds_toArray, List.set_cons_zero, List.set_cons_succ]
    refine held_one (i := 9) (by kernel_rfl) rfl (fun K hK => ?_)
    go_simp
    refine hK.out _ _ trivial (fun _ => ?_)
    clear hK K
    try simp only [Act.put, List.setIfInBounds_toArray, List.set_cons_zero, List.set_cons_succ]
  case' r8.refine_2 =>
    go_simp
    refine hK.out _ _ trivial (fun _ => ?_)
    clear hK K
    try simp only [Act.put, List.setIfInBounds_toArray, List.set_cons_zero, List.set_cons_succ]
    refine held_one (i := 5) (by kernel_rfl) rfl (fun K hK => ?_)
    refine held_wanted rfl (wp_load_mid 97 (.tmp 69) rfl g 1 rfl (U.map uq) _ hcv Tryz.underlying97 rfl (by rw [info_vec, List.length_map, hV4]) ?_)
    refine hK.out _ _ trivial (fun _ => ?_)
    clear hK K
    try simp only [Act.put, List.setIfInBounds_toArray, List.set_cons_zero, List.set_cons_succ]
  · refine held_one (i := 10) (by kernel_rfl) rfl (fun K hK => ?_)
    go_simp
    refine (compact_any v U X W5 hrow5.sd hV4 hle4 (by omega) hrise hmay).mono ?_
    rintro e w6 ⟨v6, rfl, ho6, hb6⟩
    refine hK.out _ _ trivial (fun _ => ?_)
    clear hK K
    try simp only [Act.put, List.setIfInBounds_toArray, List.set_cons_zero, List.set_cons_succ]
    clear hcv p1 hrow5
    have hV6 : (cp U X).1.length = 16 := by rw [cp_len]; exact hV4
    have hU6 : cp U X = addF (V, X) d := by rw [HU.out, ← HNX.out, ← HE.out]
    have hB6 := hB5.below hb6 hB5.lt
    have hgw5 := hB5.lt
    have hsz6 := hb6.size
    have hk6 : Keep (fun i => i = g) w w6 := hk5.trans (Keep.of_below (S := fun i => i = g) hb6) (fun _ h => h) (fun _ _ h => h)
    have hw5 := hk5.size
    have hS6 := addF_spec (S := (V, X)) HC.out.fit HM.out
    rw [hU6] at ho6 hV6 ⊢
    clear hU6 hB5 hb6 hk5
    obtain ⟨S, hS⟩ : ∃ S, S = addF (V, X) d := ⟨_, rfl⟩
    rw [← hS] at ho6 hV6 hS6 ⊢
    have HS := Lib.hid hS
    clear hS
    have hinf := uqs_info hV6
    have hone := uqs_one S.1
    have hth := blk_thereVec hB6 hV4 hV6
    refine' wpAnyH_take (i := 11) (oi := ⟨some 64, _, _, _, _, _⟩) (v := _) rfl (by kernel_rfl) (by kernel_rfl) (by kernel_rfl) (fun _ _ _ h => h) (Or.inl ⟨by rfl, ?y11⟩) trivial ?r11
    case y11 => (intro w' hSw; go_simp; try rfl)
    try simp only [Act.put, List.setIfInBounds_toArray, List.set_cons_zero, List.set_cons_succ]
    refine' wpAnyH_take (i := 12) (oi := ⟨some 76, _, _, _, _, _⟩) (v := _) rfl (by kernel_rfl) (by kernel_rfl) (by kernel_rfl) (fun _ _ _ h => h) (Or.inl ⟨by rfl, ?y12⟩) trivial ?r12
    case y12 => (intro w' hSw; go_simp; try rfl)
    try simp only [Act.put, List.setIfInBounds_toArray, List.set_cons_zero, List.set_cons_succ]
    refine' wpAnyH_take (i := 13) (oi := ⟨some 77, _, _, _, _, _⟩) (v := _) rfl (by kernel_rfl) (by kernel_rfl) (by kernel_rfl) (fun _ _ _ h => h) (Or.inl ⟨by rfl, ?y13⟩) trivial ?r13
    case y13 => (intro w' hSw; go_simp; try rfl)
    try simp only [Act.put, List.setIfInBounds_toArray, List.set_cons_zero, List.set_cons_succ]
    refine' wpAnyH_take (i := 14) (oi := ⟨some 78, _, _, _, _, _⟩) (v := _) rfl (by kernel_rfl) (by kernel_rfl) (by kernel_rfl) (fun _ _ _ h => h) (Or.inl ⟨by rfl, ?y14⟩) trivial ?r14
    case y14 => (intro w' hSw; go_simp; try rfl)
    try simp only [Act.put, List.setIfInBounds_toArray, List.set_cons_zero, List.set_cons_succ]
    refine' wpAnyH_take (i := 15) (oi := ⟨some 79, _, _, _, _, _⟩) (v := _) rfl (by kernel_rfl) (by kernel_rfl) (by kernel_rfl) (fun _ _ _ h => h) (Or.inl ⟨by rfl, ?y15⟩) trivial ?r15
    case y15 => (intro w' hSw; go_simp; try rfl)
    try simp only [Act.put, List.setIfInBounds_toArray, List.set_cons_zero, List.set_cons_succ]
    refine held_one (i := 16) (by kernel_rfl) rfl (fun K hK => ?_)
    refine held_wanted rfl (wp_store_mid 97 (.tmp 79) (.tmp 76) rfl g 1 (uqs S.1) rfl rfl hth hinf hone ?_)
    refine hK.out _ _ trivial (fun _ => ?_)
    clear hK K
    try simp only [Act.put, List.setIfInBounds_toArray, List.set_cons_zero, List.set_cons_succ]
    have hB7 := blk_setVec hB6 hV4 hV6
    have hg7 := grown_setCells g (uqs S.1).toList 1 w6
    have ho7 : OwnD (w6.setCells g 1 (uqs S.1).toList) W5.heap.size v6 S.2 := ho6.keep fun i hi => hg7.block i (ho6.lt i hi).2 (fun e => by injection e with e; have := (ho6.lt i hi).1; omega)
    have hk7 : Keep (fun i => i = g) w (w6.setCells g 1 (uqs S.1).toList) := hk6.trans (Keep.of_grown (S := fun i => i = g) hg7 (fun i hi => by injection hi with hi; exact hi.symm)) (fun _ h => h) (fun _ _ h => h)
    clear hth hinf hone hB6 hg7 ho6 hk6
    generalize w6.setCells g 1 (uqs S.1).toList = w7 at hB7 ho7 hk7 ⊢
    have q7 := cxc_extra hB7 hV6
    have f7 := hB7.frozen 17
    refine' wpAnyH_take (i := 17) (oi := ⟨some 80, _, _, _, _, _⟩) (v := _) rfl (by kernel_rfl) (by kernel_rfl) (by kernel_rfl) (fun _ _ _ h => h) (Or.inl ⟨by rfl, ?y17⟩) trivial ?r17
    case y17 => (intro w' hSw; go_simp; try rfl)
    try simp only [Act.put, List.setIfInBounds_toArray, List.set_cons_zero, List.set_cons_succ]
    refine' wpAnyH_take (i := 18) (oi := ⟨some 81, _, _, _, _, _⟩) (v := _) rfl (by kernel_rfl) (by kernel_rfl) (by kernel_rfl) (fun _ _ _ h => h) (Or.inl ⟨by rfl, ?y18⟩) trivial ?r18
    case y18 => (intro w' hSw; go_simp; try rfl)
    try simp only [Act.put, List.setIfInBounds_toArray, List.set_cons_zero, List.set_cons_succ]
    obtain ⟨A6, n6, c6, rfl⟩ := ho7.shape
    refine held_one (i := 19) (by kernel_rfl) rfl (fun K hK => ?_)
    go_simp
    refine hK.out _ _ trivial (fun _ => ?_)
    clear hK K
    try simp only [Act.put, List.setIfInBounds_toArray, List.set_cons_zero, List.set_cons_succ]
    refine wpAnyH_done (by kernel_rfl) ?_ _
    go_wp2
    go_ret2
    have hB8 := blk_setExtra hB7 hV6 (.slice A6 n6 c6)
    have ho8 : OwnD (w7.setCell ⟨g, 17, none⟩ (.slice A6 n6 c6)) 0 (.slice A6 n6 c6) S.2 := (ho7.mono (Nat.zero_le _)).keep fun i hi => Below.heap_setCell _ _ _ i (fun e => by have h1 := (ho7.lt i hi).1; have h2 : i = g := e; omega)
    rw [← HS.out]
    refine ⟨rfl, _, ⟨hB8, ho8, fun e => ?_, hS6.1⟩, hk7.trans (Keep.setCell (S := fun i => i = g) w7 ⟨g, 17, none⟩ _ rfl) (fun i h => .inl h) (fun i _ h => .inl h), fun i hi => .inr (by have := (ho7.lt i hi).1; omega)⟩
    have := (ho7.lt g e).1; omega
  · refine held_one (i := 10) (by kernel_rfl) rfl (fun K hK => ?_)
    go_simp
    refine (compact_any v U X W5 hrow5.sd hV4 hle4 (by omega) hrise hmay).mono ?_
    rintro e w6 ⟨v6, rfl, ho6, hb6⟩
    refine hK.out _ _ trivial (fun _ => ?_)
    clear hK K
    try simp only [Act.put, List.setIfInBounds_toArray, List.set_cons_zero, List.set_cons_succ]
    clear hcv p1 hrow5
    have hV6 : (cp U X).1.length = 16 := by rw [cp_len]; exact hV4
    have hU6 : cp U X = addF (V, X) d := by rw [HU.out, ← HNX.out, ← HE.out]
    have hB6 := hB5.below hb6 hB5.lt
    have hgw5 := hB5.lt
    have hsz6 := hb6.size
    have hk6 : Keep (fun i => i = g) w w6 := hk5.trans (Keep.of_below (S := fun i => i = g) hb6) (fun _ h => h) (fun _ _ h => h)
    have hw5 := hk5.size
    have hS6 := addF_spec (S := (V, X)) HC.out.fit HM.out
    rw [hU6] at ho6 hV6 ⊢
    clear hU6 hB5 hb6 hk5
    obtain ⟨S, hS⟩ : ∃ S, S = addF (V, X) d := ⟨_, rfl⟩
    rw [← hS] at ho6 hV6 hS6 ⊢
    have HS := Lib.hid hS
    clear hS
    have hinf := uqs_info hV6
    have hone := uqs_one S.1
    have hth := blk_thereVec hB6 hV4 hV6
    refine' wpAnyH_take (i := 11) (oi := ⟨some 64, _, _, _, _, _⟩) (v := _) rfl (by kernel_rfl) (by kernel_rfl) (by kernel_rfl) (fun _ _ _ h => h) (Or.inl ⟨by rfl, ?y11b⟩) trivial ?r11b
    case y11b => (intro w' hSw; go_simp; try rfl)
    try simp only [Act.put, List.setIfInBounds_toArray, List.set_cons_zero, List.set_cons_succ]
    refine' wpAnyH_take (i := 12) (oi := ⟨some 76, _, _, _, _, _⟩) (v := _) rfl (by kernel_rfl) (by kernel_rfl) (by kernel_rfl) (fun _ _ _ h => h) (Or.inl ⟨by rfl, ?y12b⟩) trivial ?r12b
    case y12b => (intro w' hSw; go_simp; try rfl)
    try simp only [Act.put, List.setIfInBounds_toArray, List.set_cons_zero, List.set_cons_succ]
    refine' wpAnyH_take (i := 13) (oi := ⟨some 77, _, _, _, _, _⟩) (v := _) rfl (by kernel_rfl) (by kernel_rfl) (by kernel_rfl) (fun _ _ _ h => h) (Or.inl ⟨by rfl, ?y13b⟩) trivial ?r13b
    case y13b => (intro w' hSw; go_simp; try rfl)
    try simp only [Act.put, List.setIfInBounds_toArray, List.set_cons_zero, List.set_cons_succ]
    refine' wpAnyH_take (i := 14) (oi := ⟨some 78, _, _, _, _, _⟩) (v := _) rfl (by kernel_rfl) (by kernel_rfl) (by kernel_rfl) (fun _ _ _ h => h) (Or.inl ⟨by rfl, ?y14b⟩) trivial ?r14b
    case y14b => (intro w' hSw; go_simp; try rfl)
    try simp only [Act.put, List.setIfInBounds_toArray, List.set_cons_zero, List.set_cons_succ]
    refine' wpAnyH_take (i := 15) (oi := ⟨some 79, _, _, _, _, _⟩) (v := _) rfl (by kernel_rfl) (by kernel_rfl) (by kernel_rfl) (fun _ _ _ h => h) (Or.inl ⟨by rfl, ?y15b⟩) trivial ?r15b
    case y15b => (intro w' hSw; go_simp; try rfl)
    try simp only [Act.put, List.setIfInBounds_toArray, List.set_cons_zero, List.set_cons_succ]
    refine held_one (i := 16) (by kernel_rfl) rfl (fun K hK => ?_)
    refine held_wanted rfl (wp_store_mid 97 (.tmp 79) (.tmp 76) rfl g 1 (uqs S.1) rfl rfl hth hinf hone ?_)
    refine hK.out _ _ trivial (fun _ => ?_)
    clear hK K
    try simp only [Act.put, List.setIfInBounds_toArray, List.set_cons_zero, List.set_cons_succ]
    have hB7 := blk_setVec hB6 hV4 hV6
    have hg7 := grown_setCells g (uqs S.1).toList 1 w6
    have ho7 : OwnD (w6.setCells g 1 (uqs S.1).toList) W5.heap.size v6 S.2 := ho6.keep fun i hi => hg7.block i (ho6.lt i hi).2 (fun e => by injection e with e; have := (ho6.lt i hi).1; omega)
    have hk7 : Keep (fun i => i = g) w (w6.setCells g 1 (uqs S.1).toList) := hk6.trans (Keep.of_grown (S := fun i => i = g) hg7 (fun i hi => by injection hi with hi; exact hi.symm)) (fun _ h => h) (fun _ _ h => h)
    clear hth hinf hone hB6 hg7 ho6 hk6
    generalize w6.setCells g 1 (uqs S.1).toList = w7 at hB7 ho7 hk7 ⊢
    have q7 := cxc_extra hB7 hV6
    have f7 := hB7.frozen 17
    refine' wpAnyH_take (i := 17) (oi := ⟨some 80, _, _, _, _, _⟩) (v := _) rfl (by kernel_rfl) (by kernel_rfl) (by kernel_rfl) (fun _ _ _ h => h) (Or.inl ⟨by rfl, ?y17b⟩) trivial ?r17b
    case y17b => (intro w' hSw; go_simp; try rfl)
    try simp only [Act.put, List.setIfInBounds_toArray, List.set_cons_zero, List.set_cons_succ]
    refine' wpAnyH_take (i := 18) (oi := ⟨some 81, _, _, _, _, _⟩) (v := _) rfl (by kernel_rfl) (by kernel_rfl) (by kernel_rfl) (fun _ _ _ h => h) (Or.inl ⟨by rfl, ?y18b⟩) trivial ?r18b
    case y18b => (intro w' hSw; go_simp; try rfl)
    try simp only [Act.put, List.setIfInBounds_toArray, List.set_cons_zero, List.set_cons_succ]
    obtain ⟨A6, n6, c6, rfl⟩ := ho7.shape
    refine held_one (i := 19) (by kernel_rfl) rfl (fun K hK => ?_)
    go_simp
    refine hK.out _ _ trivial (fun _ => ?_)
    clear hK K
    try simp only [Act.put, List.setIfInBounds_toArray, List.set_cons_zero, List.set_cons_succ]
    refine wpAnyH_done (by kernel_rfl) ?_ _
    go_wp2
    go_ret2
    have hB8 := blk_setExtra hB7 hV6 (.slice A6 n6 c6)
    have ho8 : OwnD (w7.setCell ⟨g, 17, none⟩ (.slice A6 n6 c6)) 0 (.slice A6 n6 c6) S.2 := (ho7.mono (Nat.zero_le _)).keep fun i hi => Below.heap_setCell _ _ _ i (fun e => by have h1 := (ho7.lt i hi).1; have h2 : i = g := e; omega)
    rw [← HS.out]
    refine ⟨rfl, _, ⟨hB8, ho8, fun e => ?_, hS6.1⟩, hk7.trans (Keep.setCell (S := fun i => i = g) w7 ⟨g, 17, none⟩ _ rfl) (fun i h => .inl h) (fun i _ h => .inl h), fun i hi => .inr (by have := (ho7.lt i hi).1; omega)⟩
    have := (ho7.lt g e).1; omega
end Go.Proofs.YtldfaaahmpncbaaGreat

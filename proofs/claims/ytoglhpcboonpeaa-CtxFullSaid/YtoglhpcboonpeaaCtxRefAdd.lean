/-
  The walk of the document's Add.
-/
import Derived.Test.YtoglhpcboonpeaaCtxRefC
namespace Go.Proofs.Ytoglhpcboonpeaa
open Go.RowKit
open CtxM
set_option linter.unusedVariables false
set_option linter.unusedSimpArgs false
set_option maxRecDepth 20000

/-- What the document's Add leaves of a set. -/
def SAdded (w w' : World) (g : Nat) (S : List Nat × List Dt) : Prop :=
  ∃ v', Sx w' g v' S.1 S.2 ∧ Keep (fun i => i = g) w w' ∧ ∀ i, v'.ownBlock = some i → w.heap.size ≤ i

theorem refAdd_old (g : Nat) (v : Value) (V : List Nat) (X : List Dt) (d : Dt) (w : World) (hc : Sx w g v V X) (hI : In V X d) (hl : X.length ≤ 10000) :
    Calls Try.prog 14 #[.pointer (some ⟨g, 0, none⟩), .agg #[.int .i64 d.1, .int .u64 (d.2 : Int)]] w fun e w' => e = .returned (.bool false) ∧ Grw w w' := by
  have Hg := (Grw.refl w).alloc (.cells #[.int .i64 d.1, .int .u64 (d.2 : Int)] 35)
  have hh := refHas_any g v V X d _ (hc.below Hg.below) (by omega)
  rw [decide_eq_true hI] at hh
  clear hc hI
  go_enter Try.func14, Try.ntmps14
  go_wp2_with (go_at_call 17; refine hh.mono ?_; rintro e w1 ⟨rfl, hg1⟩)
  go_ret
  exact ⟨rfl, Hg.trans hg1⟩

theorem Sd.sub2 {w : World} {b o n c : Nat} {L : List Dt} (h : Sd w (.slice (some ⟨b, o, none⟩) n c) L) (i : Nat) (hi : i ≤ L.length) (hc : n ≤ c) (v : Value) (hv : v = .slice (some ⟨b, o + i * 2, none⟩) (n - i) (c - i)) : Sd w v (L.drop i) := by
  obtain rfl := h.len
  have := h.sub i L.length hi (Nat.le_refl _) (some ⟨b, o + i * 2, none⟩) (fun b' o' e _ => by injection e with e; injection e with e1 e2; subst e1; subst e2; rfl) hc
  rw [List.take_length] at this
  rw [hv]; exact this

set_option maxHeartbeats 4000000 in
theorem refAdd_new (g : Nat) (v : Value) (V : List Nat) (X : List Dt) (d : Dt) (w : World) (hc : Sx w g v V X) (hM : May d) (hI : ¬ In V X d) (hl : X.length ≤ 10000) :
    Calls Try.prog 14 #[.pointer (some ⟨g, 0, none⟩), .agg #[.int .i64 d.1, .int .u64 (d.2 : Int)]] w fun e w' => e = .returned (.bool true) ∧ SAdded w w' g (addF (V, X) d) := by
  obtain ⟨i0, hi0, hz0, hz1, hz2⟩ := info_parts info_dot
  have hfo : Try.prog.follows .mixedOrders = true := by kernel_rfl
  have Hg := (Grw.refl w).alloc (.cells #[.int .i64 d.1, .int .u64 (d.2 : Int)] 35)
  have hh := refHas_any g v V X d _ (hc.below Hg.below) (by omega)
  rw [decide_eq_false hI] at hh
  have hB := Blk.new w 35 #[.int .i64 d.1, .int .u64 (d.2 : Int)]
  have hsB : w.heap.size + 1 ≤ (w.alloc (.cells #[.int .i64 d.1, .int .u64 (d.2 : Int)] 35)).heap.size := by simp
  have HC := Lib.hid hc
  have HI := Lib.hid hI
  have HM := Lib.hid hM
  have hgl := hc.blk.lt
  have hls : ∀ x W, Calls Try.prog 19 #[.agg #[.int .i64 x.1, .int .u64 (x.2 : Int)], .agg #[.int .i64 d.1, .int .u64 (d.2 : Int)]] W fun e w' => e = .returned (.bool (decide (Lt x d))) ∧ Grw W w' := fun x W => refLess_any x d W
  obtain ⟨A, c, rfl, hcc, _⟩ := hc.row
  clear hc hI hM
  go_enter Try.func14, Try.ntmps14
  go_wp2_with (go_at_call 17; refine hh.mono ?_; rintro e w1 ⟨rfl, hg1⟩)
  have hb1 := (Hg.trans hg1).below
  have hB1 := hB.below hg1.below hB.lt
  have hs1 : w.heap.size + 1 ≤ w1.heap.size := Nat.le_trans hsB hg1.below.size
  clear hh hB Hg hg1 hsB
  go_loopw [5, 6] (fun x z wr => ∃ i : Nat, z = .int .i64 (i : Int) ∧ i ≤ X.length ∧ (∀ k (h : k < X.length), k < i → Lt X[k] d) ∧ OwnD wr (w.heap.size + 1) x (X.take i) ∧ Below w.heap.size w wr ∧ Blk wr w.heap.size 35 #[.int .i64 d.1, .int .u64 (d.2 : Int)] ∧ w.heap.size + 1 ≤ wr.heap.size) (fun _ z _ => X.length - (intOf z).toNat)
  case atStart => exact ⟨0, rfl, Nat.zero_le _, fun k _ h => absurd h (by omega), OwnD.nil, hb1, hB1, hs1⟩
  case round =>
    clear hb1 hB1 hs1
    obtain ⟨i, rfl, hi, hall, ho, hb, hBr, hsr⟩ := hrel
    have HA := Lib.hid hall
    clear hall
    have hcr := HC.out.below hb
    have hx := hcr.extra
    by_cases hlt : i < X.length
    · obtain ⟨x, hxx⟩ : ∃ x, X[i] = x := ⟨_, rfl⟩
      obtain ⟨b, o, rfl, k0, k1⟩ := hcr.row.at_ i hlt x hxx
      have HX := Lib.hid hxx
      have HL := Lib.hid hlt
      clear hxx
      have q0 : ∀ n os, (Go.Sort.grow (wr.drewN n) os).cell? ⟨g, 16, none⟩ = some (.slice (some ⟨b, o, none⟩) X.length c) := cell_grown hcr.blk.lt hx
      have q1 : ∀ n os, (Go.Sort.grow (wr.drewN n) os).cell? ⟨w.heap.size, 0, none⟩ = some (.int .i64 d.1) := cell_grown hBr.lt (by rw [hBr.cell]; rfl)
      have q2 : ∀ n os, (Go.Sort.grow (wr.drewN n) os).cell? ⟨w.heap.size, 1, none⟩ = some (.int .u64 (d.2 : Int)) := cell_grown hBr.lt (by rw [hBr.cell]; rfl)
      have q3 : ∀ n os, (Go.Sort.grow (wr.drewN n) os).cell? ⟨b, o + i * 2, none⟩ = some (.int .i64 x.1) := cell_grown (World.block_lt_of_cell? wr _ k0) k0
      have q4 : ∀ n os, (Go.Sort.grow (wr.drewN n) os).cell? ⟨b, o + i * 2 + 1, none⟩ = some (.int .u64 (x.2 : Int)) := cell_grown (World.block_lt_of_cell? wr _ k1) k1
      have hls1 := fun n os => hls x (Go.Sort.grow (wr.drewN n) os)
      have hilt : (i : Int) < (X.length : Int) := by omega
      by_cases hxd : Lt x d
      · rw [decide_eq_true hxd] at hls1
        have HXD := Lib.hid hxd
        clear hxd hls hx k0 k1 hcr
        go_wp2_with fail
        go_quiet_grown (first | (go_at_call 19; refine Calls.grown_of (hls1 _ _)))
        clear q0 q1 q2 q3 q4 hls1
        obtain ⟨w2, hw2⟩ : ∃ w2, w2 = Go.Sort.grow (wr.drewN nq) osq := ⟨_, rfl⟩
        rw [← hw2]
        have Hg2 : Grw wr w2 := ⟨nq, osq, hw2⟩
        clear hw2
        have hb2 := hb.trans (Hg2.below.mono hb.size)
        have hcr2 := HC.out.below hb2
        have hx2 := hcr2.extra
        obtain ⟨b2, o2, e2, k0, k1⟩ := hcr2.row.at_ i HL.out x HX.out
        injection e2 with e2
        injection e2 with e3 e4
        subst e3; subst e4
        have ho2 := ho.below Hg2.below
        have hB2 := hBr.below Hg2.below hBr.lt
        have hs2 := Nat.le_trans hsr Hg2.below.size
        have ho3 : OwnD (w2.alloc (.cells #[.int .i64 x.1, .int .u64 (x.2 : Int)] 35)) (w.heap.size + 1) u5 (X.take i) := ho2.alloc _
        have hB3 := hB2.alloc (.cells #[.int .i64 x.1, .int .u64 (x.2 : Int)] 35)
        have hb3 : Below w.heap.size w (w2.alloc (.cells #[.int .i64 x.1, .int .u64 (x.2 : Int)] 35)) := hb2.alloc hb2.size _
        have hs1 : Sd (w2.alloc (.cells #[.int .i64 x.1, .int .u64 (x.2 : Int)] 35)) (.slice (some ⟨w2.heap.size, 0, none⟩) 1 1) [x] := blk_pair (Blk.new _ _ _)
        have hlen : (X.take i).length + [x].length ≤ 1000000 := by rw [List.length_take]; simp; omega
        have hbase : w.heap.size + 1 ≤ (w2.alloc (.cells #[.int .i64 x.1, .int .u64 (x.2 : Int)] 35)).heap.size := by simp; omega
        clear hcr2 ho2 hB2 hb2 hs2 hb ho hBr hsr Hg2
        go_wp2_with (refine wpList_append_dots _ rfl (.tmp 30) (.tmp 38) 22 rfl (w.heap.size + 1) i0 Try.underlying22 hi0 hz0 hz1 hz2 u5 (X.take i) rfl ho3 _ [x] rfl hs1 hlen hbase ?_; intro v' w5 ho6 hgr _ _)
        have htk : X.take (i + 1) = X.take i ++ [x] := by rw [List.take_succ_eq_append_getElem HL.out, HX.out]
        refine ⟨⟨i + 1, by go_num, by omega, fun k hk hki => ?_, by rw [htk]; exact ho6, ho3.grown hgr hb3 (by omega) (by omega), hB3.past ho3 hgr (by omega), Nat.le_trans hbase hgr.size⟩, by simp [intOf]; omega⟩
        rcases Nat.lt_or_ge k i with h | h
        · exact HA.out k hk h
        · obtain rfl : k = i := by omega
          rw [HX.out]; exact HXD.out
      · rw [decide_eq_false hxd] at hls1
        have hcn : ∀ k (h : k < X.length), i ≤ k → ¬ Lt X[k] d := fun k hk hik hx => by
          rcases Nat.lt_or_ge i k with h | h
          · have h1 := (List.pairwise_iff_getElem.1 HC.out.fit.rise) i k hlt hk h
            rw [HX.out] at h1
            exact hxd (h1.trans hx)
          · obtain rfl : i = k := by omega
            rw [HX.out] at hx; exact hxd hx
        have HCN := Lib.hid (cnt_of hi HA.out hcn).1
        clear hxd hls hx k0 k1 hcr hcn
        go_wp2_with fail
        go_quiet_grown (first | (go_at_call 19; refine Calls.grown_of (hls1 _ _)))
        clear q0 q1 q2 q3 q4 hls1
        obtain ⟨w2, hw2⟩ : ∃ w2, w2 = Go.Sort.grow (wr.drewN nq) osq := ⟨_, rfl⟩
        rw [← hw2]
        have Hg2 : Grw wr w2 := ⟨nq, osq, hw2⟩
        clear hw2
        have hb2 := hb.trans (Hg2.below.mono hb.size)
        have ho2 := ho.below Hg2.below
        have hB2 := hBr.below Hg2.below hBr.lt
        have hs2 := Nat.le_trans hsr Hg2.below.size
        have p0 : w2.cell? ⟨w.heap.size, 0, none⟩ = some (.int .i64 d.1) := by rw [hB2.cell]; rfl
        have p1 : w2.cell? ⟨w.heap.size, 1, none⟩ = some (.int .u64 (d.2 : Int)) := by rw [hB2.cell]; rfl
        have ho3 : OwnD (w2.alloc (.cells #[.int .i64 d.1, .int .u64 (d.2 : Int)] 35)) (w.heap.size + 1) u5 (X.take i) := ho2.alloc _
        have hb3 : Below w.heap.size w (w2.alloc (.cells #[.int .i64 d.1, .int .u64 (d.2 : Int)] 35)) := hb2.alloc hb2.size _
        have hs1 : Sd (w2.alloc (.cells #[.int .i64 d.1, .int .u64 (d.2 : Int)] 35)) (.slice (some ⟨w2.heap.size, 0, none⟩) 1 1) [d] := blk_pair (Blk.new _ _ _)
        have hlen : (X.take i).length + [d].length ≤ 1000000 := by rw [List.length_take]; simp; omega
        have hbase : w.heap.size + 1 ≤ (w2.alloc (.cells #[.int .i64 d.1, .int .u64 (d.2 : Int)] 35)).heap.size := by simp; omega
        clear ho2 hB2 hb2 hs2 hb ho hBr hsr Hg2
        have hci : ¬ c = i := by have := HL.out; omega
        have hlen2 : (X.take i ++ [d]).length + (X.drop i).length ≤ 1000000 := by simp; omega
        have hiX : (i : Int) ≤ (X.length : Int) := by omega
        go_wp2_with (first | (refine wpList_append_dots _ rfl (.tmp 40) (.tmp 42) 22 rfl (w.heap.size + 1) i0 Try.underlying22 hi0 hz0 hz1 hz2 u5 (X.take i) rfl ho3 _ [d] rfl hs1 hlen hbase ?_; intro v4 w4 ho4 hgr4 _ _; have hb4 := ho3.grown hgr4 hb3 (by omega) (by omega); have hc4 := HC.out.below hb4; have x16 := hc4.extra; have hsz4 := hgr4.size; have f16 := hc4.blk.frozen 16) | (refine wpList_append_dots _ rfl (.tmp 45) (.tmp 51) 22 rfl (w.heap.size + 1) i0 Try.underlying22 hi0 hz0 hz1 hz2 v4 (X.take i ++ [d]) rfl ho4 _ (X.drop i) rfl (hc4.row.sub2 i hi (by omega) _ rfl) hlen2 (Nat.le_trans hbase hsz4) ?_; intro v6 w6 ho6 hgr6 _ _; have hb6 := ho4.grown hgr6 hb4 (by omega) (by omega); have hc6 := HC.out.below hb6; have y16 := hc6.extra; have g16 := hc6.blk.frozen 16; obtain ⟨A6, n6, c6, rfl⟩ := ho6.shape))
        have hL : (X.take i ++ [d]) ++ X.drop i = ins X d := by rw [← ins_at HC.out.fit.rise d, HCN.out]; simp
        have hfit := HC.out.fit
        have hadd : addF (V, X) d = cp V (ins X d) := by unfold addF; rw [if_neg HI.out]
        have hsp := addF_spec (S := (V, X)) hfit HM.out
        rw [hL] at ho6
        have hng : (Value.slice A6 n6 c6).ownBlock ≠ some g := fun e => by have := (ho6.lt g e).1; omega
        have hB8 := sxc_setExtra hc6.blk hfit.len (.slice A6 n6 c6)
        have ho8 : OwnD (w6.setCell ⟨g, 16, none⟩ (.slice A6 n6 c6)) (w.heap.size + 1) (.slice A6 n6 c6) (ins X d) := ho6.keep fun j hj => Below.heap_setCell _ _ _ j (fun e => hng (by rw [hj]; exact congrArg some e))
        have hk8 : Keep (fun i => i = g) w (w6.setCell ⟨g, 16, none⟩ (.slice A6 n6 c6)) := (Keep.of_below (S := fun i => i = g) (hb6.trans (Below.refl _ _))).trans (Keep.setCell (S := fun i => i = g) w6 ⟨g, 16, none⟩ _ rfl) (fun _ h => h) (fun _ _ h => h)
        have HADD := Lib.hid hadd
        have HSP := Lib.hid hsp
        clear hadd hsp hL hcc
        refine (refCompact_any g _ V (ins X d) _ hB8 ho8.sd hng hfit.len hfit.le (fun x hx => by rcases mem_ins.1 hx with e | e; exact e ▸ HM.out; exact hfit.may x e) (by rw [ins_len]; omega)).mono ?_
        rintro e w9 ⟨rfl, v9, hB9, ho9, hk9⟩
        go_wp2
        go_ret
        have hz9 := hk8.size
        refine ⟨rfl, v9, ?_, hk8.trans hk9 (fun _ h => h) (fun _ _ h => h), fun j hj => Nat.le_trans hz9 (ho9.lt j hj).1⟩
        have hsp := HSP.out
        rw [HADD.out] at hsp ⊢
        exact ⟨hB9, ho9.sd, fun j hj => (ho9.lt j hj).2, fun e => by have := (ho9.lt g e).1; omega, hsp.1⟩
    · obtain rfl : i = X.length := by omega
      have HCN := Lib.hid (cnt_of hi HA.out (fun k hk hik => absurd hk (by omega))).1
      have hbf : decide ((X.length : Int) < (X.length : Int)) = false := decide_eq_false (by omega)
      clear hls hcr
      go_wp2_with fail
      go_quiet (fail)
      obtain ⟨w2, hw2⟩ : ∃ w2, w2 = wr.drewN nq := ⟨_, rfl⟩
      rw [← hw2]
      have Hg2 : Grw wr w2 := hw2 ▸ (Grw.refl wr).drewN nq
      clear hw2 hx
      have hb2 := hb.trans (Hg2.below.mono hb.size)
      have ho2 := ho.below Hg2.below
      have hB2 := hBr.below Hg2.below hBr.lt
      have hs2 := Nat.le_trans hsr Hg2.below.size
      have p0 : w2.cell? ⟨w.heap.size, 0, none⟩ = some (.int .i64 d.1) := by rw [hB2.cell]; rfl
      have p1 : w2.cell? ⟨w.heap.size, 1, none⟩ = some (.int .u64 (d.2 : Int)) := by rw [hB2.cell]; rfl
      have ho3 : OwnD (w2.alloc (.cells #[.int .i64 d.1, .int .u64 (d.2 : Int)] 35)) (w.heap.size + 1) u5 (X.take X.length) := ho2.alloc _
      have hb3 : Below w.heap.size w (w2.alloc (.cells #[.int .i64 d.1, .int .u64 (d.2 : Int)] 35)) := hb2.alloc hb2.size _
      have hs1 : Sd (w2.alloc (.cells #[.int .i64 d.1, .int .u64 (d.2 : Int)] 35)) (.slice (some ⟨w2.heap.size, 0, none⟩) 1 1) [d] := blk_pair (Blk.new _ _ _)
      have hlen : (X.take X.length).length + [d].length ≤ 1000000 := by rw [List.length_take]; simp; omega
      have hbase : w.heap.size + 1 ≤ (w2.alloc (.cells #[.int .i64 d.1, .int .u64 (d.2 : Int)] 35)).heap.size := by simp; omega
      clear ho2 hB2 hb2 hs2 hb ho hBr hsr Hg2
      have hlen2 : (X.take X.length ++ [d]).length + ([] : List Dt).length ≤ 1000000 := by simp; omega
      go_wp2_with (first | (refine wpList_append_dots _ rfl (.tmp 40) (.tmp 42) 22 rfl (w.heap.size + 1) i0 Try.underlying22 hi0 hz0 hz1 hz2 u5 (X.take X.length) rfl ho3 _ [d] rfl hs1 hlen hbase ?_; intro v4 w4 ho4 hgr4 _ _; have hb4 := ho3.grown hgr4 hb3 (by omega) (by omega); have hc4 := HC.out.below hb4; have x16 := hc4.extra; have hsz4 := hgr4.size; have f16 := hc4.blk.frozen 16) | (refine wpList_append_dots _ rfl (.tmp 45) (.tmp 51) 22 rfl (w.heap.size + 1) i0 Try.underlying22 hi0 hz0 hz1 hz2 v4 (X.take X.length ++ [d]) rfl ho4 _ [] rfl (Sd.nil _ _) hlen2 (Nat.le_trans hbase hsz4) ?_; intro v6 w6 ho6 hgr6 _ _; have hb6 := ho4.grown hgr6 hb4 (by omega) (by omega); have hc6 := HC.out.below hb6; have y16 := hc6.extra; have g16 := hc6.blk.frozen 16; obtain ⟨A6, n6, c6, rfl⟩ := ho6.shape))
      · have hL : (X.take X.length ++ [d]) ++ [] = ins X d := by rw [← ins_at HC.out.fit.rise d, HCN.out]; simp
        have hfit := HC.out.fit
        have hadd : addF (V, X) d = cp V (ins X d) := by unfold addF; rw [if_neg HI.out]
        have hsp := addF_spec (S := (V, X)) hfit HM.out
        rw [hL] at ho6
        have hng : (Value.slice A6 n6 c6).ownBlock ≠ some g := fun e => by have := (ho6.lt g e).1; omega
        have hB8 := sxc_setExtra hc6.blk hfit.len (.slice A6 n6 c6)
        have ho8 : OwnD (w6.setCell ⟨g, 16, none⟩ (.slice A6 n6 c6)) (w.heap.size + 1) (.slice A6 n6 c6) (ins X d) := ho6.keep fun j hj => Below.heap_setCell _ _ _ j (fun e => hng (by rw [hj]; exact congrArg some e))
        have hk8 : Keep (fun i => i = g) w (w6.setCell ⟨g, 16, none⟩ (.slice A6 n6 c6)) := (Keep.of_below (S := fun i => i = g) (hb6.trans (Below.refl _ _))).trans (Keep.setCell (S := fun i => i = g) w6 ⟨g, 16, none⟩ _ rfl) (fun _ h => h) (fun _ _ h => h)
        have HADD := Lib.hid hadd
        have HSP := Lib.hid hsp
        clear hadd hsp hL hcc
        refine (refCompact_any g _ V (ins X d) _ hB8 ho8.sd hng hfit.len hfit.le (fun x hx => by rcases mem_ins.1 hx with e | e; exact e ▸ HM.out; exact hfit.may x e) (by rw [ins_len]; omega)).mono ?_
        rintro e w9 ⟨rfl, v9, hB9, ho9, hk9⟩
        go_wp2
        go_ret
        have hz9 := hk8.size
        refine ⟨rfl, v9, ?_, hk8.trans hk9 (fun _ h => h) (fun _ _ h => h), fun j hj => Nat.le_trans hz9 (ho9.lt j hj).1⟩
        have hsp := HSP.out
        rw [HADD.out] at hsp ⊢
        exact ⟨hB9, ho9.sd, fun j hj => (ho9.lt j hj).2, fun e => by have := (ho9.lt g e).1; omega, hsp.1⟩
      · have hL : (X.take X.length ++ [d]) ++ [] = ins X d := by rw [← ins_at HC.out.fit.rise d, HCN.out]; simp
        have hfit := HC.out.fit
        have hadd : addF (V, X) d = cp V (ins X d) := by unfold addF; rw [if_neg HI.out]
        have hsp := addF_spec (S := (V, X)) hfit HM.out
        rw [hL] at ho6
        have hng : (Value.slice A6 n6 c6).ownBlock ≠ some g := fun e => by have := (ho6.lt g e).1; omega
        have hB8 := sxc_setExtra hc6.blk hfit.len (.slice A6 n6 c6)
        have ho8 : OwnD (w6.setCell ⟨g, 16, none⟩ (.slice A6 n6 c6)) (w.heap.size + 1) (.slice A6 n6 c6) (ins X d) := ho6.keep fun j hj => Below.heap_setCell _ _ _ j (fun e => hng (by rw [hj]; exact congrArg some e))
        have hk8 : Keep (fun i => i = g) w (w6.setCell ⟨g, 16, none⟩ (.slice A6 n6 c6)) := (Keep.of_below (S := fun i => i = g) (hb6.trans (Below.refl _ _))).trans (Keep.setCell (S := fun i => i = g) w6 ⟨g, 16, none⟩ _ rfl) (fun _ h => h) (fun _ _ h => h)
        have HADD := Lib.hid hadd
        have HSP := Lib.hid hsp
        clear hadd hsp hL hcc
        refine (refCompact_any g _ V (ins X d) _ hB8 ho8.sd hng hfit.len hfit.le (fun x hx => by rcases mem_ins.1 hx with e | e; exact e ▸ HM.out; exact hfit.may x e) (by rw [ins_len]; omega)).mono ?_
        rintro e w9 ⟨rfl, v9, hB9, ho9, hk9⟩
        go_wp2
        go_ret
        have hz9 := hk8.size
        refine ⟨rfl, v9, ?_, hk8.trans hk9 (fun _ h => h) (fun _ _ h => h), fun j hj => Nat.le_trans hz9 (ho9.lt j hj).1⟩
        have hsp := HSP.out
        rw [HADD.out] at hsp ⊢
        exact ⟨hB9, ho9.sd, fun j hj => (ho9.lt j hj).2, fun e => by have := (ho9.lt g e).1; omega, hsp.1⟩
end Go.Proofs.Ytoglhpcboonpeaa

/-
  The cursor's Of.
-/
import Derived.Test.YthlopecllhdmhaaDoorCuS
import Derived.Test.YthlopecllhdmhaaDoorReadV
import Derived.Test.YthlopecllhdmhaaDoorApp
import Derived.Test.YthlopecllhdmhaaDoorShaEq
namespace Go.Proofs.YthlopecllhdmhaaDoor
open Go.RowKit
open CtxM
set_option linter.unusedVariables false
set_option linter.unusedSimpArgs false
set_option maxRecDepth 20000

def z16 (a b : Nat) : List Nat := [a, b, 0, 0, 0, 0, 0, 0, 0, 0, 0, 0, 0, 0, 0, 0]
/-- The vector whose cursor some bytes are, and the error's number. -/
def curOf (s : List UInt8) (d : ByteArray) (l : List UInt8) : List Nat × Int :=
  if nameB d = false then (z16 0 0, 2) else if l = [] then (z16 0 0, 0) else if l.length ≠ 160 then (z16 0 0, 9)
  else if (∀ n ∈ vecN (l.take 128), n ≤ top) ∧ l.drop 128 = codeN s (cuT d (l.take 128)) then (vecN (l.take 128), 0) else (z16 0 0, 9)
theorem vec_uqs {C : Array Value} {V : List Nat} (h : Vec C V) : C = uqs V := Vec.uniq h (vec_of V h.len h.lt)
/-- Where Of stands ahead of its test. -/
structure Ow (w W : World) (sv : Value) (s : List UInt8) (pv : Value) (p : List UInt8) (gv : Nat) (V : List Nat) (gc : Nat) (m : List UInt8) : Prop where
  rr : Blk W w.heap.size 25 (uqs (z16 0 0))
  ss : Sl W sv s
  pp : Sl W pv p
  vv : Blk W gv 25 (uqs V)
  cc : Blk W gc 45 (rowB m)
  gg : Gl W
  bb : Below w.heap.size w W
  len : V.length = 16
  m32 : m.length = 32
  p128 : p.length = 128
theorem Ow.below {w W W' : World} {sv pv : Value} {s p m : List UInt8} {gv gc : Nat} {V : List Nat} (h : Ow w W sv s pv p gv V gc m) (hb : Below W.heap.size W W') : Ow w W' sv s pv p gv V gc m :=
  ⟨h.rr.below hb h.rr.lt, h.ss.below hb, h.pp.below hb, h.vv.below hb h.vv.lt, h.cc.below hb h.cc.lt, h.gg.below hb, h.bb.trans (hb.mono h.bb.size), h.len, h.m32, h.p128⟩

set_option maxHeartbeats 4000000 in
theorem cof_any (sv : Value) (s : List UInt8) (d : ByteArray) (v : Value) (l : List UInt8) (w : World) (hs : Sl w sv s) (hv : Sl w v l) (hl : s.length ≤ 1000000) (hg : Gl w) :
    Calls Tryd.prog 12 #[sv, .string d, v] w fun e w' => e = .returned (.tuple #[.agg (uqs (curOf s d l).1), .int .i64 (curOf s d l).2]) ∧ Below w.heap.size w w' := by
  have hfo : Tryd.prog.follows .mixedOrders = true := by kernel_rfl
  have hB0 := Blk.new w 25 (uqs (z16 0 0))
  have hb0 : Below w.heap.size w (w.alloc (.cells (uqs (z16 0 0)) 25)) := (Below.refl _ _).alloc (Nat.le_refl _) _
  obtain ⟨A0, n0, c0, rfl⟩ := hs.shape
  obtain ⟨A, n, c, rfl⟩ := hv.shape
  obtain rfl := hv.len
  cases hN : nameB d
  · have E := Lib.hid (show curOf s d l = (z16 0 0, 2) by unfold curOf; rw [if_pos hN])
    go_enter Tryd.func12, Tryd.ntmps12
    go_upto_region 1 with fail
    change Code.wp _ _ _ _ (w.alloc (.cells (uqs (z16 0 0)) 25))
    generalize w.alloc (.cells (uqs (z16 0 0)) 25) = W0 at hB0 hb0 ⊢
    go_wp2_with (first | (go_at_call 19; refine (cmayDevice_any _ _).mono ?_; rintro e wd ⟨rfl, hwd⟩; obtain rfl := hwd.symm; rw [hN]) | (refine wpList_store_mid rfl 25 _ _ rfl w.heap.size 0 (uqs (z16 0 0)) rfl rfl hB0.there (uqs_info (U := z16 0 0) rfl) (uqs_one _) ?_; try simp only [Act.put, List.setIfInBounds_toArray, List.set_cons_zero, List.set_cons_succ]))
    try rw [Exit.noGoto_ret]
    have hE := hB0.setRow (ds := uqs (z16 0 0)) rfl
    have hbE := Below.only hb0 (grown_setCells w.heap.size (uqs (z16 0 0)).toList 0 W0) (Nat.le_refl _) hb0.size
    exact bodyPost_ret (v := .tuple #[.agg (uqs (z16 0 0)), .int .i64 2]) (results_row_tmp rfl _ _ w.heap.size 25 (uqs (z16 0 0)) (0, 0) _ _ rfl rfl hE Tryd.underlying25 rfl (uqs_info (U := z16 0 0) rfl)) rfl ⟨by rw [E.out], hbE⟩
  by_cases h0 : l = []
  · have E := Lib.hid (show curOf s d l = (z16 0 0, 0) by unfold curOf; rw [if_neg (by rw [hN]; simp), if_pos h0])
    have hli : (l.length : Int) = 0 := by rw [h0]; rfl
    have hli2 : ((l.length : Int) == 0) = true := by rw [hli]; rfl
    go_enter Tryd.func12, Tryd.ntmps12
    go_upto_region 1 with fail
    change Code.wp _ _ _ _ (w.alloc (.cells (uqs (z16 0 0)) 25))
    generalize w.alloc (.cells (uqs (z16 0 0)) 25) = W0 at hB0 hb0 ⊢
    go_wp2_with (first | (go_at_call 19; refine (cmayDevice_any _ _).mono ?_; rintro e wd ⟨rfl, hwd⟩; obtain rfl := hwd.symm; rw [hN]) | (refine wpList_store_mid rfl 25 _ _ rfl w.heap.size 0 (uqs (z16 0 0)) rfl rfl hB0.there (uqs_info (U := z16 0 0) rfl) (uqs_one _) ?_; try simp only [Act.put, List.setIfInBounds_toArray, List.set_cons_zero, List.set_cons_succ]))
    try rw [Exit.noGoto_ret]
    have hE := hB0.setRow (ds := uqs (z16 0 0)) rfl
    have hbE := Below.only hb0 (grown_setCells w.heap.size (uqs (z16 0 0)).toList 0 W0) (Nat.le_refl _) hb0.size
    exact bodyPost_ret (v := .tuple #[.agg (uqs (z16 0 0)), .int .i64 0]) (results_row_tmp rfl _ _ w.heap.size 25 (uqs (z16 0 0)) (0, 0) _ _ rfl rfl hE Tryd.underlying25 rfl (uqs_info (U := z16 0 0) rfl)) rfl ⟨by rw [E.out], hbE⟩
  have hne : ((l.length : Int) == 0) = false := by
    rw [beq_eq_false_iff_ne]
    intro h
    exact h0 (List.eq_nil_of_length_eq_zero (by omega))
  by_cases h160 : l.length = 160
  · have hn1 : ((l.length : Int) != 160) = false := by rw [h160]; rfl
    obtain ⟨bb, o, rfl, _⟩ := (show ∃ b o, A = some ⟨b, o, none⟩ ∧ True by
      obtain ⟨A9, c9, e9, hc9, ha⟩ := hv
      injection e9 with e1 e2 e3
      obtain ⟨b, o, hA, _⟩ := ha (by omega)
      exact ⟨b, o, e1.trans hA, trivial⟩)
    have HS := Lib.hid (show curOf s d l = if (∀ n ∈ vecN (l.take 128), n ≤ top) ∧ l.drop 128 = codeN s (cuT d (l.take 128)) then (vecN (l.take 128), 0) else (z16 0 0, 9) by unfold curOf; rw [if_neg (by rw [hN]; simp), if_neg h0, if_neg (by simp [h160])])
    obtain ⟨ov, hov⟩ : ∃ ov, ov = curOf s d l := ⟨_, rfl⟩
    rw [← hov]
    have HOV := Lib.hid hov
    clear hov
    go_enter Tryd.func12, Tryd.ntmps12
    go_upto_region 1 with fail
    change Code.wp _ _ _ _ (w.alloc (.cells (uqs (z16 0 0)) 25))
    generalize w.alloc (.cells (uqs (z16 0 0)) 25) = W0 at hB0 hb0 ⊢
    clear h0
    have hs1 := hs.below hb0
    have hv1 := hv.below hb0
    have hg1 := hg.below hb0
    clear hs hv hg
    rw [h160] at hv1
    have H160 := Lib.hid h160
    have hvn : (l.length : Int) = 160 := by omega
    go_upto_region 7 with (first | (go_at_call 19; refine (cmayDevice_any _ _).mono ?_; rintro e wd ⟨rfl, hwd⟩; obtain rfl := hwd.symm; rw [hN]))
    try rw [h160]
    clear hn1 hne hvn
    have hPT := fun W (h : Below W0.heap.size W0 W) => cparts_any bb o c l W (hv1.below h)
    clear h160
    go_wp2_with fail
    refine (hPT _ (Below.refl _ _)).mono ?_
    rintro e w2 ⟨rfl, hb2⟩
    have hB2 := hB0.below hb2 hB0.lt
    have hbw2 := hb0.trans (hb2.mono hb0.size)
    have hs2 := hs1.below hb2
    have hg2 := hg1.below hb2
    have hp2 := (hv1.below hb2).mid 0 128 128 (by omega) (Nat.le_refl _)
    rw [Nat.add_zero, List.drop_zero] at hp2
    have hm32 : (l.drop 128).length = 32 := by rw [List.length_drop]; have := H160.out; omega
    have hp128 : (l.take 128).length = 128 := by rw [List.length_take]; have := H160.out; omega
    clear hPT hs1 hg1 hv1 hB0 hb0 hb2
    generalize l.drop 128 = m at hm32 HS ⊢
    generalize l.take 128 = p at hp128 HS hp2
    have hci := rowB_info hm32
    have hc1 := rowB_one m
    have hcr : (rowB m).size = 32 := by rw [rowB_size, hm32]
    obtain ⟨hth, hI, hbI⟩ := fresh_row w2 45 (rowB m) 32 hcr
    go_upto_region 8 with (refine wpList_store_mid rfl 45 _ _ rfl w2.heap.size 0 (rowB m) rfl rfl hth hci hc1 ?_)
    change Code.wp _ _ _ _ ((w2.alloc (.cells (rowB (List.replicate 32 0)) 45)).setCells w2.heap.size 0 (rowB m).toList)
    have hB3 := hB2.below hbI hB2.lt
    have hbw3 := hbw2.trans (hbI.mono hbw2.size)
    have hs3 := hs2.below hbI
    have hg3 := hg2.below hbI
    have hp3 := hp2.below hbI
    generalize (w2.alloc (.cells (rowB (List.replicate 32 0)) 45)).setCells w2.heap.size 0 (rowB m).toList = W3 at hB3 hbw3 hs3 hg3 hp3 hI ⊢
    clear hB2 hbw2 hs2 hg2 hp2 hth hbI hci hc1 hcr
    generalize w2.heap.size = gc at hI ⊢
    go_wp2_with fail
    refine (read_any _ p _ hp3 (by omega)).mono ?_
    rintro e w4 ⟨gr, rfl, hgr4, hrd4, hb4⟩
    have hb4w := hb4
    go_wp2_with fail
    refine (rvec_ok gr p _ hrd4 (by omega) (by omega)).mono ?_
    rintro e w5 ⟨C, rfl, hVC, _, hgr5⟩
    rw [List.take_of_length_le (by omega)] at hVC
    have hb5 : Below W3.heap.size W3 w5 := Below.only hb4 hgr5 hgr4 hb4.size
    obtain rfl := vec_uqs hVC
    have hlen : (vecN p).length = 16 := hVC.len
    clear hVC hrd4 hgr5 hb4 hb4w
    generalize vecN p = V at hlen HS ⊢
    have hthv : (w5.alloc (.cells (uqs (z16 0 0)) 25)).there w5.heap.size 0 (uqs V).size := by
      have := (Blk.new w5 25 (uqs (z16 0 0))).there
      rw [uqs_size] at this ⊢
      rw [hlen]; exact this
    go_upto_region 9 with (refine wpList_store_mid rfl 25 _ _ rfl w5.heap.size 0 (uqs V) rfl rfl hthv (uqs_info hlen) (uqs_one _) ?_)
    change Code.wp _ _ _ _ ((w5.alloc (.cells (uqs (z16 0 0)) 25)).setCells w5.heap.size 0 (uqs V).toList)
    have hV9 : Blk ((w5.alloc (.cells (uqs (z16 0 0)) 25)).setCells w5.heap.size 0 (uqs V).toList) w5.heap.size 25 (uqs V) := (Blk.new w5 25 (uqs (z16 0 0))).setRow (by rw [uqs_size, uqs_size, hlen]; rfl)
    have hb9 : Below w5.heap.size w5 ((w5.alloc (.cells (uqs (z16 0 0)) 25)).setCells w5.heap.size 0 (uqs V).toList) := Below.only ((Below.refl _ _).alloc (Nat.le_refl _) _) (grown_setCells _ _ _ _) (Nat.le_refl _) (by simp)
    generalize (w5.alloc (.cells (uqs (z16 0 0)) 25)).setCells w5.heap.size 0 (uqs V).toList = W9 at hV9 hb9 ⊢
    have hgv := hb5.size
    generalize w5.heap.size = gv at hV9 hb9 hgv ⊢
    have hbz : Below W3.heap.size W3 W9 := by
      exact hb5.trans (hb9.mono hgv)
    have J : Ow w W9 _ s _ p gv V gc m := ⟨hB3.below hbz hB3.lt, hs3.below hbz, hp3.below hbz, hV9, hI.below hbz hI.lt, hg3.below hbz, hbw3.trans (hbz.mono hbw3.size), hlen, hm32, hp128⟩
    clear hB3 hbw3 hs3 hp3 hI hg3 hbz hV9 hb9 hb5 hthv
    have hMc := fun W => cmay_any V W hlen
    cases hM : decide (∀ n ∈ V, n ≤ top)
    · rw [hM] at hMc
      have E := Lib.hid (show ov = (z16 0 0, 9) by rw [HOV.out, HS.out, if_neg (fun h => by have := of_decide_eq_false hM; exact this h.1)])
      clear HOV HS hM
      refine wp_region_held_drew (S := fun X => Below W9.heap.size W9 X) hfo (Below.refl _ _).drew (fun hS0 => ?_)
      have KD := J.below (show Below W9.heap.size W9 W9.drew from (Below.refl _ _).drew)
      generalize W9.drew = Z0 at hS0 KD ⊢
      refine' wpAnyH_take (i := 0) (oi := ⟨some 34, _, _, _, _, _⟩) (v := .agg (uqs V)) rfl (by kernel_rfl) (by kernel_rfl) (by kernel_rfl) (fun _ _ _ h => h) (Or.inl ⟨by rfl, ?y0f⟩) hS0 ?r0f
      case y0f =>
        intro w' hSw
        have hld := run_loadAt_mid (P := Tryd.prog) w' gv 0 25 (uqs V).toList _ (uqs_range (J.vv.below hSw J.vv.lt)) Tryd.underlying25 rfl (by rw [Array.length_toList]; exact uqs_info J.len)
        rw [Array.toArray_toList] at hld
        exact run_exec_load _ _ _ _ rfl _ _ rfl _ hld
      try simp only [Act.put, List.setIfInBounds_toArray, List.set_cons_zero, List.set_cons_succ]
      refine held_one (i := 1) (by kernel_rfl) rfl (fun Kf hK => ?_)
      go_simp
      refine (hMc Z0).mono ?_
      rintro e Z1 ⟨rfl, hg1⟩
      have hS1 := hS0.trans (hg1.below.mono hS0.size)
      have K1 := KD.below hg1.below
      refine hK.out _ _ hS1 (fun _ => ?_)
      clear hK Kf
      try simp only [Act.put, List.setIfInBounds_toArray, List.set_cons_zero, List.set_cons_succ]
      refine' wpAnyH_take (i := 2) (oi := ⟨some 36, _, _, _, _, _⟩) (v := _) rfl (by kernel_rfl) (by kernel_rfl) (by kernel_rfl) (fun _ _ _ h => h) (Or.inl ⟨by rfl, ?y2f⟩) hS1 ?r2f
      case y2f => (intro w' hSw; go_simp; try rfl)
      try simp only [Act.put, List.setIfInBounds_toArray, List.set_cons_zero, List.set_cons_succ]
      refine' wpAnyH_take (i := 3) (oi := ⟨some 37, _, _, _, _, _⟩) (v := _) rfl (by kernel_rfl) (by kernel_rfl) (by kernel_rfl) (fun _ _ _ h => h) (Or.inl ⟨by rfl, ?y3f⟩) hS1 ?r3f
      case y3f => (intro w' hSw; go_simp; try rfl)
      try simp only [Act.put, List.setIfInBounds_toArray, List.set_cons_zero, List.set_cons_succ]
      refine' wpAnyH_take (i := 4) (oi := ⟨some 38, _, _, _, _, _⟩) (v := undef) rfl (by kernel_rfl) (by kernel_rfl) (by kernel_rfl) (fun _ _ _ h => h) (Or.inr ⟨by rfl, rfl⟩) hS1 ?r4f
      try simp only [Act.put, List.setIfInBounds_toArray, List.set_cons_zero, List.set_cons_succ]
      refine' wpAnyH_take (i := 5) (oi := ⟨some 39, _, _, _, _, _⟩) (v := undef) rfl (by kernel_rfl) (by kernel_rfl) (by kernel_rfl) (fun _ _ _ h => h) (Or.inr ⟨by rfl, rfl⟩) hS1 ?r5f
      try simp only [Act.put, List.setIfInBounds_toArray, List.set_cons_zero, List.set_cons_succ]
      refine' wpAnyH_take (i := 6) (oi := ⟨some 40, _, _, _, _, _⟩) (v := undef) rfl (by kernel_rfl) (by kernel_rfl) (by kernel_rfl) (fun _ _ _ h => h) (Or.inr ⟨by rfl, rfl⟩) hS1 ?r6f
      try simp only [Act.put, List.setIfInBounds_toArray, List.set_cons_zero, List.set_cons_succ]
      refine' wpAnyH_take (i := 7) (oi := ⟨some 41, _, _, _, _, _⟩) (v := undef) rfl (by kernel_rfl) (by kernel_rfl) (by kernel_rfl) (fun _ _ _ h => h) (Or.inr ⟨by rfl, rfl⟩) hS1 ?r7f
      try simp only [Act.put, List.setIfInBounds_toArray, List.set_cons_zero, List.set_cons_succ]
      refine' wpAnyH_take (i := 8) (oi := ⟨some 42, _, _, _, _, _⟩) (v := undef) rfl (by kernel_rfl) (by kernel_rfl) (by kernel_rfl) (fun _ _ _ h => h) (Or.inr ⟨by rfl, rfl⟩) hS1 ?r8f
      try simp only [Act.put, List.setIfInBounds_toArray, List.set_cons_zero, List.set_cons_succ]
      refine' wpAnyH_take (i := 9) (oi := ⟨some 43, _, _, _, _, _⟩) (v := undef) rfl (by kernel_rfl) (by kernel_rfl) (by kernel_rfl) (fun _ _ _ h => h) (Or.inr ⟨by rfl, rfl⟩) hS1 ?r9f
      try simp only [Act.put, List.setIfInBounds_toArray, List.set_cons_zero, List.set_cons_succ]
      refine' wpAnyH_take (i := 10) (oi := ⟨some 44, _, _, _, _, _⟩) (v := undef) rfl (by kernel_rfl) (by kernel_rfl) (by kernel_rfl) (fun _ _ _ h => h) (Or.inr ⟨by rfl, rfl⟩) hS1 ?r10f
      try simp only [Act.put, List.setIfInBounds_toArray, List.set_cons_zero, List.set_cons_succ]
      refine' wpAnyH_take (i := 11) (oi := ⟨some 45, _, _, _, _, _⟩) (v := _) rfl (by kernel_rfl) (by kernel_rfl) (by kernel_rfl) (fun _ _ _ h => h) (Or.inl ⟨by rfl, ?y11f⟩) hS1 ?r11f
      case y11f => (intro w' hSw; go_simp; try rfl)
      try simp only [Act.put, List.setIfInBounds_toArray, List.set_cons_zero, List.set_cons_succ]
      refine wpAnyH_done (by kernel_rfl) ?_ _
      go_upto_region 10 with fail
      go_wp2_with (first | (refine wpList_store_mid rfl 25 _ _ rfl w.heap.size 0 (uqs (z16 0 0)) rfl rfl (by rw [uqs_size, (show (z16 0 0).length = 16 from rfl)]; have := K1.rr.there; rwa [uqs_size] at this) (uqs_info (show (z16 0 0).length = 16 from rfl)) (uqs_one _) ?_; try simp only [Act.put, List.setIfInBounds_toArray, List.set_cons_zero, List.set_cons_succ]))
      have hE := K1.rr.setRow (ds := uqs (z16 0 0)) (by first | rfl | (rw [uqs_size, uqs_size, (show (z16 0 0).length = 16 from rfl)]; rfl))
      have hbE := Below.only K1.bb (grown_setCells w.heap.size (uqs (z16 0 0)).toList 0 Z1) (Nat.le_refl _) K1.bb.size
      exact bodyPost_ret (v := .tuple #[.agg (uqs (z16 0 0)), .int .i64 9]) (results_row_tmp rfl _ _ w.heap.size 25 (uqs (z16 0 0)) (0, 0) _ _ rfl rfl hE Tryd.underlying25 rfl (uqs_info (show (z16 0 0).length = 16 from rfl))) rfl ⟨by rw [E.out], hbE⟩
    · rw [hM] at hMc
      cases hq : decide (m = codeN s (cuT d p))
      · have E := Lib.hid (show ov = (z16 0 0, 9) by rw [HOV.out, HS.out, if_neg (fun h => by have := of_decide_eq_false hq; exact this h.2)])
        clear HOV HS hM
        refine wp_region_held_drew (S := fun X => Below W9.heap.size W9 X) hfo (Below.refl _ _).drew (fun hS0 => ?_)
        have KD := J.below (show Below W9.heap.size W9 W9.drew from (Below.refl _ _).drew)
        generalize W9.drew = Z0 at hS0 KD ⊢
        refine' wpAnyH_take (i := 0) (oi := ⟨some 34, _, _, _, _, _⟩) (v := .agg (uqs V)) rfl (by kernel_rfl) (by kernel_rfl) (by kernel_rfl) (fun _ _ _ h => h) (Or.inl ⟨by rfl, ?y0t⟩) hS0 ?r0t
        case y0t =>
          intro w' hSw
          have hld := run_loadAt_mid (P := Tryd.prog) w' gv 0 25 (uqs V).toList _ (uqs_range (J.vv.below hSw J.vv.lt)) Tryd.underlying25 rfl (by rw [Array.length_toList]; exact uqs_info J.len)
          rw [Array.toArray_toList] at hld
          exact run_exec_load _ _ _ _ rfl _ _ rfl _ hld
        try simp only [Act.put, List.setIfInBounds_toArray, List.set_cons_zero, List.set_cons_succ]
        refine held_one (i := 1) (by kernel_rfl) rfl (fun Kt hK => ?_)
        go_simp
        refine (hMc Z0).mono ?_
        rintro e Z1 ⟨rfl, hg1⟩
        have hS1 := hS0.trans (hg1.below.mono hS0.size)
        have K1 := KD.below hg1.below
        refine hK.out _ _ hS1 (fun _ => ?_)
        clear hK Kt
        try simp only [Act.put, List.setIfInBounds_toArray, List.set_cons_zero, List.set_cons_succ]
        refine' wpAnyH_take (i := 2) (oi := ⟨some 36, _, _, _, _, _⟩) (v := _) rfl (by kernel_rfl) (by kernel_rfl) (by kernel_rfl) (fun _ _ _ h => h) (Or.inl ⟨by rfl, ?y2t⟩) hS1 ?r2t
        case y2t => (intro w' hSw; go_simp; try rfl)
        try simp only [Act.put, List.setIfInBounds_toArray, List.set_cons_zero, List.set_cons_succ]
        refine' wpAnyH_take (i := 3) (oi := ⟨some 37, _, _, _, _, _⟩) (v := _) rfl (by kernel_rfl) (by kernel_rfl) (by kernel_rfl) (fun _ _ _ h => h) (Or.inl ⟨by rfl, ?y3t⟩) hS1 ?r3t
        case y3t => (intro w' hSw; go_simp; try rfl)
        try simp only [Act.put, List.setIfInBounds_toArray, List.set_cons_zero, List.set_cons_succ]
        refine' wpAnyH_take (i := 4) (oi := ⟨some 38, _, _, _, _, _⟩) (v := .agg (rowB m)) rfl (by kernel_rfl) (by kernel_rfl) (by kernel_rfl) (fun _ _ _ h => h) (Or.inl ⟨by rfl, ?y4t⟩) hS1 ?r4t
        case y4t =>
          intro w' hSw
          have hck := J.cc.below hSw J.cc.lt
          have hld := run_loadAt_mid (P := Tryd.prog) w' gc 0 45 (rowB m).toList _ (fun i v hv => by rw [Nat.zero_add, hck.cell i]; simpa using hv) Tryd.underlying45 rfl (by rw [Array.length_toList]; exact rowB_info J.m32)
          rw [Array.toArray_toList] at hld
          exact run_exec_load _ _ _ _ rfl _ _ rfl _ hld
        try simp only [Act.put, List.setIfInBounds_toArray, List.set_cons_zero, List.set_cons_succ]
        refine' wpAnyH_take (i := 5) (oi := ⟨some 39, _, _, _, _, _⟩) (v := _) rfl (by kernel_rfl) (by kernel_rfl) (by kernel_rfl) (fun _ _ _ h => h) (Or.inl ⟨by rfl, ?y5t⟩) hS1 ?r5t
        case y5t => (intro w' hSw; go_simp; try rfl)
        try simp only [Act.put, List.setIfInBounds_toArray, List.set_cons_zero, List.set_cons_succ]
        refine' wpAnyH_take (i := 6) (oi := ⟨some 40, _, _, _, _, _⟩) (v := _) rfl (by kernel_rfl) (by kernel_rfl) (by kernel_rfl) (fun _ _ _ h => h) (Or.inl ⟨by rfl, ?y6t⟩) hS1 ?r6t
        case y6t => (intro w' hSw; go_simp; try rfl)
        try simp only [Act.put, List.setIfInBounds_toArray, List.set_cons_zero, List.set_cons_succ]
        refine' wpAnyH_take (i := 7) (oi := ⟨some 41, _, _, _, _, _⟩) (v := _) rfl (by kernel_rfl) (by kernel_rfl) (by kernel_rfl) (fun _ _ _ h => h) (Or.inl ⟨by rfl, ?y7t⟩) hS1 ?r7t
        case y7t => (intro w' hSw; go_simp; try rfl)
        try simp only [Act.put, List.setIfInBounds_toArray, List.set_cons_zero, List.set_cons_succ]
        refine held_one (i := 8) (by kernel_rfl) rfl (fun Kt hK => ?_)
        go_simp
        refine (codeOf_any _ s d _ p Z1 K1.ss K1.pp hl (by have := name_le hN; omega) (by have := J.p128; omega) K1.gg).mono ?_
        rintro e Z2 ⟨rfl, hb2⟩
        have hS2 := hS1.trans (hb2.mono hS1.size)
        have K2 := K1.below hb2
        refine hK.out _ _ hS2 (fun _ => ?_)
        clear hK Kt
        try simp only [Act.put, List.setIfInBounds_toArray, List.set_cons_zero, List.set_cons_succ]
        refine held_one (i := 9) (by kernel_rfl) rfl (fun Kt hK => ?_)
        go_simp
        refine (equal_any m (codeN s (cuT d p)) J.m32 (codeN_length _ _) Z2).mono ?_
        rintro e Z3 ⟨rfl, hb3⟩
        have hS3 := hS2.trans (hb3.mono hS2.size)
        have K3 := K2.below hb3
        rw [hq]
        refine hK.out _ _ hS3 (fun _ => ?_)
        clear hK Kt
        try simp only [Act.put, List.setIfInBounds_toArray, List.set_cons_zero, List.set_cons_succ]
        refine' wpAnyH_take (i := 10) (oi := ⟨some 44, _, _, _, _, _⟩) (v := _) rfl (by kernel_rfl) (by kernel_rfl) (by kernel_rfl) (fun _ _ _ h => h) (Or.inl ⟨by rfl, ?y10t⟩) hS3 ?r10t
        case y10t => (intro w' hSw; go_simp; try rfl)
        try simp only [Act.put, List.setIfInBounds_toArray, List.set_cons_zero, List.set_cons_succ]
        refine' wpAnyH_take (i := 11) (oi := ⟨some 45, _, _, _, _, _⟩) (v := _) rfl (by kernel_rfl) (by kernel_rfl) (by kernel_rfl) (fun _ _ _ h => h) (Or.inl ⟨by rfl, ?y11t⟩) hS3 ?r11t
        case y11t => (intro w' hSw; go_simp; try rfl)
        try simp only [Act.put, List.setIfInBounds_toArray, List.set_cons_zero, List.set_cons_succ]
        refine wpAnyH_done (by kernel_rfl) ?_ _
        go_upto_region 10 with fail
        go_wp2_with (first | (refine wpList_store_mid rfl 25 _ _ rfl w.heap.size 0 (uqs (z16 0 0)) rfl rfl (by rw [uqs_size, (show (z16 0 0).length = 16 from rfl)]; have := K3.rr.there; rwa [uqs_size] at this) (uqs_info (show (z16 0 0).length = 16 from rfl)) (uqs_one _) ?_; try simp only [Act.put, List.setIfInBounds_toArray, List.set_cons_zero, List.set_cons_succ]))
        have hE := K3.rr.setRow (ds := uqs (z16 0 0)) (by first | rfl | (rw [uqs_size, uqs_size, (show (z16 0 0).length = 16 from rfl)]; rfl))
        have hbE := Below.only K3.bb (grown_setCells w.heap.size (uqs (z16 0 0)).toList 0 Z3) (Nat.le_refl _) K3.bb.size
        exact bodyPost_ret (v := .tuple #[.agg (uqs (z16 0 0)), .int .i64 9]) (results_row_tmp rfl _ _ w.heap.size 25 (uqs (z16 0 0)) (0, 0) _ _ rfl rfl hE Tryd.underlying25 rfl (uqs_info (show (z16 0 0).length = 16 from rfl))) rfl ⟨by rw [E.out], hbE⟩
      · have E := Lib.hid (show ov = (V, 0) by rw [HOV.out, HS.out, if_pos ⟨of_decide_eq_true hM, of_decide_eq_true hq⟩])
        clear HOV HS hM
        refine wp_region_held_drew (S := fun X => Below W9.heap.size W9 X) hfo (Below.refl _ _).drew (fun hS0 => ?_)
        have KD := J.below (show Below W9.heap.size W9 W9.drew from (Below.refl _ _).drew)
        generalize W9.drew = Z0 at hS0 KD ⊢
        refine' wpAnyH_take (i := 0) (oi := ⟨some 34, _, _, _, _, _⟩) (v := .agg (uqs V)) rfl (by kernel_rfl) (by kernel_rfl) (by kernel_rfl) (fun _ _ _ h => h) (Or.inl ⟨by rfl, ?y0u⟩) hS0 ?r0u
        case y0u =>
          intro w' hSw
          have hld := run_loadAt_mid (P := Tryd.prog) w' gv 0 25 (uqs V).toList _ (uqs_range (J.vv.below hSw J.vv.lt)) Tryd.underlying25 rfl (by rw [Array.length_toList]; exact uqs_info J.len)
          rw [Array.toArray_toList] at hld
          exact run_exec_load _ _ _ _ rfl _ _ rfl _ hld
        try simp only [Act.put, List.setIfInBounds_toArray, List.set_cons_zero, List.set_cons_succ]
        refine held_one (i := 1) (by kernel_rfl) rfl (fun Ku hK => ?_)
        go_simp
        refine (hMc Z0).mono ?_
        rintro e Z1 ⟨rfl, hg1⟩
        have hS1 := hS0.trans (hg1.below.mono hS0.size)
        have K1 := KD.below hg1.below
        refine hK.out _ _ hS1 (fun _ => ?_)
        clear hK Ku
        try simp only [Act.put, List.setIfInBounds_toArray, List.set_cons_zero, List.set_cons_succ]
        refine' wpAnyH_take (i := 2) (oi := ⟨some 36, _, _, _, _, _⟩) (v := _) rfl (by kernel_rfl) (by kernel_rfl) (by kernel_rfl) (fun _ _ _ h => h) (Or.inl ⟨by rfl, ?y2u⟩) hS1 ?r2u
        case y2u => (intro w' hSw; go_simp; try rfl)
        try simp only [Act.put, List.setIfInBounds_toArray, List.set_cons_zero, List.set_cons_succ]
        refine' wpAnyH_take (i := 3) (oi := ⟨some 37, _, _, _, _, _⟩) (v := _) rfl (by kernel_rfl) (by kernel_rfl) (by kernel_rfl) (fun _ _ _ h => h) (Or.inl ⟨by rfl, ?y3u⟩) hS1 ?r3u
        case y3u => (intro w' hSw; go_simp; try rfl)
        try simp only [Act.put, List.setIfInBounds_toArray, List.set_cons_zero, List.set_cons_succ]
        refine' wpAnyH_take (i := 4) (oi := ⟨some 38, _, _, _, _, _⟩) (v := .agg (rowB m)) rfl (by kernel_rfl) (by kernel_rfl) (by kernel_rfl) (fun _ _ _ h => h) (Or.inl ⟨by rfl, ?y4u⟩) hS1 ?r4u
        case y4u =>
          intro w' hSw
          have hck := J.cc.below hSw J.cc.lt
          have hld := run_loadAt_mid (P := Tryd.prog) w' gc 0 45 (rowB m).toList _ (fun i v hv => by rw [Nat.zero_add, hck.cell i]; simpa using hv) Tryd.underlying45 rfl (by rw [Array.length_toList]; exact rowB_info J.m32)
          rw [Array.toArray_toList] at hld
          exact run_exec_load _ _ _ _ rfl _ _ rfl _ hld
        try simp only [Act.put, List.setIfInBounds_toArray, List.set_cons_zero, List.set_cons_succ]
        refine' wpAnyH_take (i := 5) (oi := ⟨some 39, _, _, _, _, _⟩) (v := _) rfl (by kernel_rfl) (by kernel_rfl) (by kernel_rfl) (fun _ _ _ h => h) (Or.inl ⟨by rfl, ?y5u⟩) hS1 ?r5u
        case y5u => (intro w' hSw; go_simp; try rfl)
        try simp only [Act.put, List.setIfInBounds_toArray, List.set_cons_zero, List.set_cons_succ]
        refine' wpAnyH_take (i := 6) (oi := ⟨some 40, _, _, _, _, _⟩) (v := _) rfl (by kernel_rfl) (by kernel_rfl) (by kernel_rfl) (fun _ _ _ h => h) (Or.inl ⟨by rfl, ?y6u⟩) hS1 ?r6u
        case y6u => (intro w' hSw; go_simp; try rfl)
        try simp only [Act.put, List.setIfInBounds_toArray, List.set_cons_zero, List.set_cons_succ]
        refine' wpAnyH_take (i := 7) (oi := ⟨some 41, _, _, _, _, _⟩) (v := _) rfl (by kernel_rfl) (by kernel_rfl) (by kernel_rfl) (fun _ _ _ h => h) (Or.inl ⟨by rfl, ?y7u⟩) hS1 ?r7u
        case y7u => (intro w' hSw; go_simp; try rfl)
        try simp only [Act.put, List.setIfInBounds_toArray, List.set_cons_zero, List.set_cons_succ]
        refine held_one (i := 8) (by kernel_rfl) rfl (fun Ku hK => ?_)
        go_simp
        refine (codeOf_any _ s d _ p Z1 K1.ss K1.pp hl (by have := name_le hN; omega) (by have := J.p128; omega) K1.gg).mono ?_
        rintro e Z2 ⟨rfl, hb2⟩
        have hS2 := hS1.trans (hb2.mono hS1.size)
        have K2 := K1.below hb2
        refine hK.out _ _ hS2 (fun _ => ?_)
        clear hK Ku
        try simp only [Act.put, List.setIfInBounds_toArray, List.set_cons_zero, List.set_cons_succ]
        refine held_one (i := 9) (by kernel_rfl) rfl (fun Ku hK => ?_)
        go_simp
        refine (equal_any m (codeN s (cuT d p)) J.m32 (codeN_length _ _) Z2).mono ?_
        rintro e Z3 ⟨rfl, hb3⟩
        have hS3 := hS2.trans (hb3.mono hS2.size)
        have K3 := K2.below hb3
        rw [hq]
        refine hK.out _ _ hS3 (fun _ => ?_)
        clear hK Ku
        try simp only [Act.put, List.setIfInBounds_toArray, List.set_cons_zero, List.set_cons_succ]
        refine' wpAnyH_take (i := 10) (oi := ⟨some 44, _, _, _, _, _⟩) (v := _) rfl (by kernel_rfl) (by kernel_rfl) (by kernel_rfl) (fun _ _ _ h => h) (Or.inl ⟨by rfl, ?y10u⟩) hS3 ?r10u
        case y10u => (intro w' hSw; go_simp; try rfl)
        try simp only [Act.put, List.setIfInBounds_toArray, List.set_cons_zero, List.set_cons_succ]
        refine' wpAnyH_take (i := 11) (oi := ⟨some 45, _, _, _, _, _⟩) (v := _) rfl (by kernel_rfl) (by kernel_rfl) (by kernel_rfl) (fun _ _ _ h => h) (Or.inl ⟨by rfl, ?y11u⟩) hS3 ?r11u
        case y11u => (intro w' hSw; go_simp; try rfl)
        try simp only [Act.put, List.setIfInBounds_toArray, List.set_cons_zero, List.set_cons_succ]
        refine wpAnyH_done (by kernel_rfl) ?_ _
        go_upto_region 11 with fail
        go_wp2_with (first | (refine wpList_load_mid_g (by rfl) 25 _ rfl gv 0 rfl (uqs V) _ (uqs_range K3.vv) Tryd.underlying25 rfl (uqs_info J.len) ?_; try simp only [Act.put, List.setIfInBounds_toArray, List.set_cons_zero, List.set_cons_succ]) | (refine wpList_store_mid rfl 25 _ _ rfl w.heap.size 0 (uqs V) rfl rfl (by rw [uqs_size, J.len]; have := K3.rr.there; rwa [uqs_size] at this) (uqs_info J.len) (uqs_one _) ?_; try simp only [Act.put, List.setIfInBounds_toArray, List.set_cons_zero, List.set_cons_succ]))
        have hE := K3.rr.setRow (ds := uqs V) (by first | rfl | (rw [uqs_size, uqs_size, J.len]; rfl))
        have hbE := Below.only K3.bb (grown_setCells w.heap.size (uqs V).toList 0 Z3) (Nat.le_refl _) K3.bb.size
        exact bodyPost_ret (v := .tuple #[.agg (uqs V), .int .i64 0]) (results_row_tmp rfl _ _ w.heap.size 25 (uqs V) (0, 0) _ _ rfl rfl hE Tryd.underlying25 rfl (uqs_info J.len)) rfl ⟨by rw [E.out], hbE⟩
  · have E := Lib.hid (show curOf s d l = (z16 0 0, 9) by unfold curOf; rw [if_neg (by rw [hN]; simp), if_neg h0, if_pos h160])
    have hn1 : ((l.length : Int) != 160) = true := by rw [bne_iff_ne]; omega
    go_enter Tryd.func12, Tryd.ntmps12
    go_upto_region 1 with fail
    change Code.wp _ _ _ _ (w.alloc (.cells (uqs (z16 0 0)) 25))
    generalize w.alloc (.cells (uqs (z16 0 0)) 25) = W0 at hB0 hb0 ⊢
    go_wp2_with (first | (go_at_call 19; refine (cmayDevice_any _ _).mono ?_; rintro e wd ⟨rfl, hwd⟩; obtain rfl := hwd.symm; rw [hN]) | (refine wpList_store_mid rfl 25 _ _ rfl w.heap.size 0 (uqs (z16 0 0)) rfl rfl hB0.there (uqs_info (U := z16 0 0) rfl) (uqs_one _) ?_; try simp only [Act.put, List.setIfInBounds_toArray, List.set_cons_zero, List.set_cons_succ]))
    try rw [Exit.noGoto_ret]
    have hE := hB0.setRow (ds := uqs (z16 0 0)) rfl
    have hbE := Below.only hb0 (grown_setCells w.heap.size (uqs (z16 0 0)).toList 0 W0) (Nat.le_refl _) hb0.size
    exact bodyPost_ret (v := .tuple #[.agg (uqs (z16 0 0)), .int .i64 9]) (results_row_tmp rfl _ _ w.heap.size 25 (uqs (z16 0 0)) (0, 0) _ _ rfl rfl hE Tryd.underlying25 rfl (uqs_info (U := z16 0 0) rfl)) rfl ⟨by rw [E.out], hbE⟩
end Go.Proofs.YthlopecllhdmhaaDoor

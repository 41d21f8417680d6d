/-
  known: the chapter's rows.
-/
import Derived.Test.YtibifnknkphanaaGreatDoorWKnA
import Derived.Test.YtibifnknkphanaaGreatDoorWLawBytes
import Derived.Lib.SlBytesConst
namespace Go.Proofs.YtibifnknkphanaaGreatDoor
open Go.RowKit Go.Maps
open DskM WalM
set_option linter.unusedVariables false
set_option linter.unusedSimpArgs false
set_option maxRecDepth 100000
attribute [local go_sem] Oper.semAt_some

theorem sl_new1 (W : World) (n : Nat) (x : UInt8) (hx : x.toNat = n) : Sl (W.alloc (.cells #[.int .u8 (n : Int)] 5)) (.slice (some ⟨W.heap.size, 0, none⟩) 1 1) [x] := by
  refine ⟨_, 1, rfl, Nat.le_refl _, fun _ => ⟨W.heap.size, 0, rfl, fun j hj => ?_⟩⟩
  have hj0 : j = 0 := by simpa using hj
  subst hj0
  rw [(Blk.new W _ _).cell, ← hx]; rfl
theorem sls_new1 (W : World) (v : Value) (l : List UInt8) (hl : Sl (W.alloc (.cells #[v] 22)) v l) : Sls (W.alloc (.cells #[v] 22)) (.slice (some ⟨W.heap.size, 0, none⟩) 1 1) [l] := by
  refine ⟨_, 1, rfl, Nat.le_refl _, fun _ => ⟨W.heap.size, 0, rfl, fun j hj => ?_⟩⟩
  have hj0 : j = 0 := by simpa using hj
  subst hj0
  exact ⟨v, by rw [(Blk.new W _ _).cell]; rfl, hl⟩
theorem sln_new1 (W : World) (n : Int) : SlN (W.alloc (.cells #[.int .i64 n] 3)) (.slice (some ⟨W.heap.size, 0, none⟩) 1 1) [n] := by
  refine ⟨_, 1, rfl, Nat.le_refl _, by omega, fun _ => ?_⟩
  refine ⟨W.heap.size, 0, rfl, fun j hj => ?_⟩
  have hj0 : j = 0 := by simpa using hj
  subst hj0
  rw [(Blk.new W _ _).cell]; rfl
theorem ks4 : (⟨k4.2.1.cap, -1, false, 0⟩ : Ds) = kS0 := by kernel_rfl
theorem kw1 : k1.2.1.wr = 2 ∧ k1.2.2.2.recs.length = 0 := ⟨by kernel_rfl, by kernel_rfl⟩
theorem kw2 : k2.2.1.wr = 3 ∧ k2.2.2.2.recs.length = 1 := ⟨by kernel_rfl, by kernel_rfl⟩
theorem kw3 : k3.2.1.wr = 4 ∧ k3.2.2.2.recs.length = 1 := ⟨by kernel_rfl, by kernel_rfl⟩
theorem kw5 : k5.2.1.wr ≤ 1000 ∧ k5.2.2.2.recs.length = 1 := ⟨by decide +kernel, by kernel_rfl⟩
theorem kw6 : k6.2.1.wr ≤ 1000 ∧ k6.2.2.2.recs.length = 0 := ⟨by decide +kernel, by kernel_rfl⟩
theorem kw7 : k7.2.1.wr ≤ 1000 ∧ k7.2.2.2.recs.length = 1 := ⟨by decide +kernel, by kernel_rfl⟩
theorem kw8 : k8.2.1.wr ≤ 1000 ∧ k8.2.1.cap = 9999 := ⟨by decide +kernel, by kernel_rfl⟩
theorem kok : mayOpen nmA 99 = true := by kernel_rfl
theorem kk1 : openL nmA kS0 [] = k1 := rfl
theorem kk5 : openL nmA kS0 (crashP [3] k4.2.2.1) = k5 := rfl
theorem kk9 : openL nmA k8.2.1 k8.2.2.1 = k9 := rfl
theorem kk2 : appendL nmA k1.2.1 k1.2.2.1 k1.2.2.2 [120] = k2 := rfl
theorem kk3 : syncL nmA k2.2.1 k2.2.2.1 k2.2.2.2 = k3 := rfl
theorem kk4 : appendL nmA k3.2.1 k3.2.2.1 k3.2.2.2 [121] = k4 := rfl
theorem kk6 : turnL nmA k5.2.1 k5.2.2.1 k5.2.2.2 [115] = k6 := rfl
theorem kk7 : appendL nmA k6.2.1 k6.2.2.1 k6.2.2.2 [122] = k7 := rfl
theorem kk8 : syncL nmA k7.2.1 k7.2.2.1 k7.2.2.2 = k8 := rfl
theorem sl_newm (W : World) (n : Nat) (x : UInt8) (hx : x.toNat = n) (fr : Nat × Nat) : Sl (W.alloc (.cells #[.int .u8 (n : Int)] 5 fr)) (.slice (some ⟨W.heap.size, 0, none⟩) 1 1) [x] := by
  refine ⟨_, 1, rfl, Nat.le_refl _, fun _ => ⟨W.heap.size, 0, rfl, fun j hj => ?_⟩⟩
  have hj0 : j = 0 := by simpa using hj
  subst hj0
  rw [World.cell?_alloc_mark, ← hx]; rfl
set_option maxHeartbeats 4000000 in
theorem known_any (w : World) (hld : Ld w) : Calls Tryz.prog 8 #[] w fun e w' => e = .returned (.bool true) ∧ Below w.heap.size w w' := by
  have hcv := fun (w : World) (C : Array Value) (n c : Nat) => Lib.run_convert_bytes_const (P := Tryz.prog) w 22 5 C n c Tryz.underlying22 Tryz.underlying5
  have hfar : Far (fun j => w.heap.size ≤ j) := hld.far (fun i hi => hi)
  have HLD := Lib.hid (And.intro hld hfar)
  have HNEW := Lib.hid (show Calls Tryz.prog 16 #[.int .i64 9999] w _ from my_new 9999 w (by omega) (by omega))
  clear hld hfar
  go_enter Tryz.func8, Tryz.ntmps8
  go_wp2_with fail
  refine HNEW.out.mono ?_
  rintro e w1 ⟨p, rfl, hm, hb1⟩
  have HOP := Lib.hid (kn_open hm hb1.size (HLD.out.1.below hb1) HLD.out.2 nmA 99 kok (by show 9999 ≤ 1000000; omega) (by show 0 + 100 ≤ 1000000; omega) kk1)
  have HB1 := Lib.hid hb1
  clear hm hb1 HNEW
  go_wp2_with fail
  refine HOP.out.mono ?_
  rintro e w2 ⟨g, hg, rfl, hl2, hb2⟩
  rw [if_pos e1.1, e1.1]
  have HL2 := Lib.hid hl2
  have HB2 := Lib.hid (show Below w.heap.size w w2 from HB1.out.trans hb2)
  clear hl2 hb2 hg HOP HB1
  go_wp2_with fail
  refine (lnum_any 0 w2).mono ?_
  rintro e wx ⟨rfl, hwx⟩
  rw [hwx]
  clear hwx wx
  go_wp2_with fail
  refine (kn_seg HL2.out).mono ?_
  rintro e wx ⟨rfl, hwx⟩
  rw [hwx, e1.2.1]
  clear hwx wx
  go_wp2_with fail
  refine (kn_snap HL2.out (by rw [e1.2.2.1]; simp)).mono ?_
  rintro e w3 ⟨v3, rfl, ho3, hb3⟩
  rw [e1.2.2.1] at ho3
  obtain ⟨A3, c3, hv3, _⟩ := ho3.sl
  subst hv3
  have HLw3 := Lib.hid (HL2.out.below hb3)
  have HBw3 := Lib.hid (HB2.out.trans (hb3.mono HB2.out.size))
  clear ho3 hb3 HL2 HB2
  go_wp2_with fail
  refine (kn_len HLw3.out).mono ?_
  rintro e wx ⟨rfl, hwx⟩
  rw [hwx, kw1.2]
  clear hwx wx
  go_wp2_with fail
  refine (kn_append (HLw3.out.below (al_one w3 _)) (by have := HBw3.out.size; simp; omega) (by have := kw1.1; omega) (by have := kw1.2; omega) (by show 1 ≤ 1000000; omega) _ [120] (sl_newm w3 120 120 rfl _) kk2).mono ?_
  rintro e w4 ⟨rfl, hl, hb⟩
  rw [e2]
  have HLw4 := Lib.hid hl
  have HBw4 := Lib.hid (HBw3.out.trans (((al_one w3 _).mono HBw3.out.size).trans hb))
  clear hl hb HLw3 HBw3
  go_wp2_with fail
  refine (lnum_any 0 w4).mono ?_
  rintro e wx ⟨rfl, hwx⟩
  rw [hwx]
  clear hwx wx
  go_wp2_with fail
  refine (kn_sync HLw4.out HBw4.out.size (by have := kw2.1; omega) (by have := kw2.2; omega) (by show 1 ≤ 1000000; omega) kk3).mono ?_
  rintro e w5 ⟨rfl, hl, hb⟩
  rw [e3]
  have HLw5 := Lib.hid hl
  have HBw5 := Lib.hid (HBw4.out.trans hb)
  clear hl hb HLw4 HBw4
  go_wp2_with fail
  refine (lnum_any 0 w5).mono ?_
  rintro e wx ⟨rfl, hwx⟩
  rw [hwx]
  clear hwx wx
  go_wp2_with fail
  refine (kn_append (HLw5.out.below (al_one w5 _)) (by have := HBw5.out.size; simp; omega) (by have := kw3.1; omega) (by have := kw3.2; omega) (by show 1 ≤ 1000000; omega) _ [121] (sl_newm w5 121 121 rfl _) kk4).mono ?_
  rintro e w6 ⟨rfl, hl, hb⟩
  rw [e4]
  have HLw6 := Lib.hid hl
  have HBw6 := Lib.hid (HBw5.out.trans (((al_one w5 _).mono HBw5.out.size).trans hb))
  clear hl hb HLw5 HBw5
  go_wp2_with fail
  refine (lnum_any 0 w6).mono ?_
  rintro e wx ⟨rfl, hwx⟩
  rw [hwx]
  clear hwx wx
  have HCR := Lib.hid (my_crash (HLw6.out.my.below (al_one w6 (.cells #[.int .i64 3] 3))) [3] _ (sln_new1 w6 3))
  go_wp2_with fail
  refine HCR.out.mono ?_
  rintro e w7 ⟨c, rfl, hm7, hb7⟩
  rw [ks4] at hm7
  have hb67 : Below w6.heap.size w6 w7 := (al_one w6 _).trans (hb7.mono (by simp))
  have hm7' : My w.heap.size w7 c kS0 (crashP [3] k4.2.2.1) := hm7.mono (by have := HBw6.out.size; simp; omega)
  have HBw7 := Lib.hid (HBw6.out.trans (hb67.mono HBw6.out.size))
  have HOP := Lib.hid (kn_open hm7' HBw7.out.size (HLD.out.1.below HBw7.out) HLD.out.2 nmA 99 kok (by show 9999 ≤ 1000000; omega) (by show 0 + 100 ≤ 1000000; omega) kk5)
  clear hm7 hm7' hb7 hb67 HLw6 HBw6 HCR
  go_wp2_with fail
  refine HOP.out.mono ?_
  rintro e w8 ⟨m, hg, rfl, hl8, hb8⟩
  rw [if_pos e5.1, e5.1]
  have HLw8 := Lib.hid hl8
  have HBw8 := Lib.hid (show Below w.heap.size w w8 from HBw7.out.trans hb8)
  clear hl8 hb8 hg HOP HBw7
  go_wp2_with fail
  refine (lnum_any 0 w8).mono ?_
  rintro e wx ⟨rfl, hwx⟩
  rw [hwx]
  clear hwx wx
  have hb89 : Below w8.heap.size w8 ((w8.alloc (.cells #[.int .u8 120] 5)).alloc (.cells #[.slice (some ⟨w8.heap.size, 0, none⟩) 1 1] 22)) := (al_one w8 _).trans ((al_one _ _).mono (by simp))
  have hsls := sls_new1 (w8.alloc (.cells #[.int .u8 120] 5)) (.slice (some ⟨w8.heap.size, 0, none⟩) 1 1) [120] ((sl_new1 w8 120 120 rfl).below (al_one _ _))
  rw [show (w8.alloc (.cells #[.int .u8 120] 5)).heap.size = w8.heap.size + 1 by simp] at hsls
  have HON := Lib.hid (kn_once (HLw8.out.below hb89) (by rw [e5.2]; simp) (by rw [e5.2]; intro l hl; rw [List.mem_singleton.1 hl]; simp) _ _ hsls)
  have HB89 := Lib.hid hb89
  clear hb89 hsls
  go_wp2_with fail
  refine HON.out.mono ?_
  rintro e w9 ⟨rfl, hb9⟩
  rw [e5.2, decide_eq_true rfl]
  have hb8_9 : Below w8.heap.size w8 w9 := HB89.out.trans (hb9.mono HB89.out.size)
  have HLw9 := Lib.hid (HLw8.out.below hb8_9)
  have HBw9 := Lib.hid (HBw8.out.trans (hb8_9.mono HBw8.out.size))
  clear hb9 hb8_9 HON HB89 HLw8 HBw8
  go_wp2_with fail
  refine (kn_turn (HLw9.out.below (al_one w9 _)) (by have := HBw9.out.size; simp; omega) (by have := kw5.1; omega) (by have := kw5.2; omega) (by show 1 ≤ 1000000; omega) _ [115] (sl_newm w9 115 115 rfl _) kk6).mono ?_
  rintro e w10 ⟨rfl, hl, hb⟩
  rw [e6]
  have HLw10 := Lib.hid hl
  have HBw10 := Lib.hid (HBw9.out.trans (((al_one w9 _).mono HBw9.out.size).trans hb))
  clear hl hb HLw9 HBw9
  go_wp2_with fail
  refine (lnum_any 0 w10).mono ?_
  rintro e wx ⟨rfl, hwx⟩
  rw [hwx]
  clear hwx wx
  go_wp2_with fail
  refine (kn_append (HLw10.out.below (al_one w10 _)) (by have := HBw10.out.size; simp; omega) (by have := kw6.1; omega) (by have := kw6.2; omega) (by show 1 ≤ 1000000; omega) _ [122] (sl_newm w10 122 122 rfl _) kk7).mono ?_
  rintro e w11 ⟨rfl, hl, hb⟩
  rw [e7]
  have HLw11 := Lib.hid hl
  have HBw11 := Lib.hid (HBw10.out.trans (((al_one w10 _).mono HBw10.out.size).trans hb))
  clear hl hb HLw10 HBw10
  go_wp2_with fail
  refine (lnum_any 0 w11).mono ?_
  rintro e wx ⟨rfl, hwx⟩
  rw [hwx]
  clear hwx wx
  go_wp2_with fail
  refine (kn_sync HLw11.out HBw11.out.size (by have := kw7.1; omega) (by have := kw7.2; omega) (by show 1 ≤ 1000000; omega) kk8).mono ?_
  rintro e w12 ⟨rfl, hl, hb⟩
  rw [e8]
  have HLw12 := Lib.hid hl
  have HBw12 := Lib.hid (HBw11.out.trans hb)
  clear hl hb HLw11 HBw11
  go_wp2_with fail
  refine (lnum_any 0 w12).mono ?_
  rintro e wx ⟨rfl, hwx⟩
  rw [hwx]
  clear hwx wx
  have HOP := Lib.hid (kn_open HLw12.out.my HBw12.out.size HLw12.out.ld HLD.out.2 nmA 99 kok (by rw [kw8.2]; omega) (by have := kw8.1; omega) kk9)
  go_wp2_with fail
  refine HOP.out.mono ?_
  rintro e w13 ⟨n, hg, rfl, hl, hb⟩
  rw [if_pos e9.1, e9.1]
  have HLw13 := Lib.hid hl
  have HBw13 := Lib.hid (show Below w.heap.size w w13 from HBw12.out.trans hb)
  clear hl hb hg HOP HLw12 HBw12
  go_wp2_with fail
  refine (lnum_any 0 w13).mono ?_
  rintro e wx ⟨rfl, hwx⟩
  rw [hwx]
  clear hwx wx
  go_wp2_with fail
  refine (kn_snap HLw13.out (by rw [e9.2.1]; simp)).mono ?_
  rintro e w14 ⟨v14, rfl, ho14, hb14⟩
  rw [e9.2.1] at ho14
  have hsl14 := ho14.sl
  obtain ⟨A14, c14, hv14, _⟩ := id hsl14
  subst hv14
  have hcv14 : (convert 22 9 (.slice A14 1 c14)).run Tryz.prog w14 = .ok (.string ⟨#[115]⟩) w14 := conv_w (t := ⟨#[115]⟩) hsl14 rfl
  have HLw14 := Lib.hid (HLw13.out.below hb14)
  have HBw14 := Lib.hid (HBw13.out.trans (hb14.mono HBw13.out.size))
  have hb15 : Below w14.heap.size w14 ((w14.alloc (.cells #[.int .u8 122] 5)).alloc (.cells #[.slice (some ⟨w14.heap.size, 0, none⟩) 1 1] 22)) := (al_one w14 _).trans ((al_one _ _).mono (by simp))
  have hsls := sls_new1 (w14.alloc (.cells #[.int .u8 122] 5)) (.slice (some ⟨w14.heap.size, 0, none⟩) 1 1) [122] ((sl_new1 w14 122 122 rfl).below (al_one _ _))
  rw [show (w14.alloc (.cells #[.int .u8 122] 5)).heap.size = w14.heap.size + 1 by simp] at hsls
  have HON := Lib.hid (kn_once (HLw14.out.below hb15) (by rw [e9.2.2.1]; simp) (by rw [e9.2.2.1]; intro l hl; rw [List.mem_singleton.1 hl]; simp) _ _ hsls)
  have HB15 := Lib.hid hb15
  have hbq : ((ByteArray.mk #[115]).toList == (ByteArray.mk #[115]).toList) = true := beq_self_eq_true _
  clear ho14 hsl14 hb14 hb15 hsls HLw13 HBw13
  go_wp2_with fail
  refine HON.out.mono ?_
  rintro e w15 ⟨rfl, hb15⟩
  rw [e9.2.2.1, decide_eq_true rfl]
  have hb14_15 : Below w14.heap.size w14 w15 := HB15.out.trans (hb15.mono HB15.out.size)
  have HLw15 := Lib.hid (HLw14.out.below hb14_15)
  have HBw15 := Lib.hid (HBw14.out.trans (hb14_15.mono HBw14.out.size))
  clear hb15 hb14_15 HON HB15 HLw14 HBw14
  go_wp2_with fail
  refine (kn_seg HLw15.out).mono ?_
  rintro e wx ⟨rfl, hwx⟩
  rw [hwx, e9.2.2.2]
  clear hwx wx
  go_wp2
  go_ret
  exact ⟨rfl, HBw15.out⟩
end Go.Proofs.YtibifnknkphanaaGreatDoor

/-
  The walk of the law's known: the chapter's rows.
-/
import Derived.Test.YtdbhffkfkklehaaDoorMkInts
import Derived.Test.YtdbhffkfkklehaaDoorShaKnown
import Derived.Lib.SlBytesConst
namespace Go.Proofs.YtdbhffkfkklehaaDoor
open Go.RowKit
set_option linter.unusedVariables false
set_option linter.unusedSimpArgs false
set_option maxRecDepth 100000

theorem Sl.of_mark1 (w : World) (e : TypeId) (C : Array Value) (fr : Nat × Nat) (l : List UInt8) (n c : Nat) (hn : n = l.length) (hc : n ≤ c) (hC : C.toList = l.map bv) :
    Sl (w.alloc (.cells C e fr)) (.slice (some ⟨w.heap.size, 0, none⟩) n c) l := by
  subst hn
  refine ⟨_, c, rfl, hc, fun _ => ⟨w.heap.size, 0, rfl, fun j hj => ?_⟩⟩
  rw [World.cell?_alloc_mark, Nat.zero_add, ← Array.getElem?_toList, hC]
  simp [List.getElem?_eq_getElem hj, bv]
theorem Tr.free2 {w : World} {g : Nat} {H : Nat → List UInt8} {v : Value} {base : Nat} {L : List (List UInt8)} (h : Tr w g H) (ho : OwnH w base v L) (hb : g < base) : v.ownBlock ≠ some g := fun e => by have := (ho.lt _ e).1; omega

theorem diff_same (w : World) (g : Nat) (H : Nat → List UInt8) (h : Tr w g H) :
    Calls Tryd.prog 24 #[.pointer (some ⟨g, 0, none⟩), .pointer (some ⟨g, 0, none⟩)] w (DiffEnd [] 1 w) := by
  have := diff_any w g g H H h h
  rw [wk_self] at this
  exact this
theorem diff_x (w : World) (g k : Nat) (H J : Nat → List UInt8) (h : Tr w g H) (hk : Tr w k J) (E F : List (List UInt8)) (hE : Hid (E = emptyL 64)) (hF : Hid (F = (emptyL 64).set 5 (leafN 5 [120]))) (hH : Good H) (hJ : Good J) (h1 : leavesOf H = F) (h2 : leavesOf J = E) :
    Calls Tryd.prog 24 #[.pointer (some ⟨g, 0, none⟩), .pointer (some ⟨k, 0, none⟩)] w (DiffEnd [5] 13 w) := by
  have := diff_any w g k H J h hk
  rw [known_diff hH hJ (h1.trans hF.out) (h2.trans hE.out)] at this
  exact this

set_option maxHeartbeats 1000000 in
theorem known_any (w : World) (hg : Gl w) : Calls Tryd.prog 8 #[] w fun e w' => e = .returned (.bool true) ∧ Below w.heap.size w w' := by
  have kc := fun (w : World) (C : Array Value) (n c : Nat) => Lib.run_convert_bytes_const (P := Tryd.prog) w 45 5 C n c Tryd.underlying45 Tryd.underlying5
  go_enter Tryd.func8, Tryd.ntmps8
  go_wp2_with fail
  refine (new_any w hg).mono ?_
  rintro e w1 ⟨g, K, rfl, hgg, ht, hgood, hlv, hb1⟩
  obtain ⟨E, hE⟩ : ∃ E, E = emptyL 64 := ⟨_, rfl⟩
  have HE := Lib.hid hE
  obtain ⟨F, hF⟩ : ∃ F, F = (emptyL 64).set 5 (leafN 5 [120]) := ⟨_, rfl⟩
  have HF := Lib.hid hF
  have HEL := Lib.hid (show E.length = 64 by rw [hE, emptyL_length])
  have HEF := Lib.hid (show E.set 5 (leafN 5 [120]) = F by rw [hE, hF])
  rw [← hE] at hlv
  clear hE hF
  have HGG := Lib.hid hgg
  have HT := Lib.hid ht
  have HGK := Lib.hid hgood
  have HLK := Lib.hid hlv
  have HB := Lib.hid hb1
  clear hgg ht hgood hlv hb1
  go_wp2_with fail
  refine (leaves_tree w1 g K HT.out).mono ?_
  rintro e w2 ⟨v2, rfl, ho2, hb2⟩
  rw [HLK.out] at ho2
  have HO2 := Lib.hid ho2
  replace HT := Lib.hid (HT.out.past hb2)
  replace HB := Lib.hid (HB.out.trans (hb2.mono HB.out.size))
  obtain ⟨A2, n2, c2, rfl⟩ := ho2.sh.shape
  clear ho2 hb2
  go_wp2_with fail
  refine (of_any w2 _ E HO2.out.sh HEL.out (hg.below HB.out)).mono ?_
  rintro e w3 ⟨g3, J, rfl, hg3, ht3, hgood3, hlv3, hb3⟩
  have hlt := HT.out.lt
  have HNE := Lib.hid (show g3 ≠ g by omega)
  replace HT := Lib.hid (HT.out.past hb3)
  have HGG3 := Lib.hid (Nat.le_trans HB.out.size hg3)
  replace HB := Lib.hid (HB.out.trans (hb3.mono HB.out.size))
  have HT3 := Lib.hid ht3
  have HGJ := Lib.hid hgood3
  have HLJ := Lib.hid hlv3
  clear HO2 hlt hg3 ht3 hgood3 hlv3 hb3
  go_wp2_with fail
  refine (diff_same w3 g K HT.out).mono ?_
  rintro e w4 ⟨v4, rfl, ho4, hb4⟩
  have hs4 := ho4.si
  obtain ⟨A4, c4, rfl, _⟩ := hs4
  replace HT := Lib.hid (HT.out.past hb4)
  replace HT3 := Lib.hid (HT3.out.past hb4)
  replace HB := Lib.hid (HB.out.trans (hb4.mono HB.out.size))
  clear ho4 hb4
  go_wp2_with fail
  have hS5 := Sl.of_mark1 w4 5 #[.int .u8 120] (1, 2) [120] 1 1 rfl (Nat.le_refl _) rfl
  have hb5 : Below w4.heap.size w4 (w4.alloc (.cells #[.int .u8 120] 5 (1, 2))) := (Below.refl _ _).alloc (Nat.le_refl _) _
  replace HB := Lib.hid (HB.out.trans (hb5.mono HB.out.size))
  replace HT := Lib.hid (HT.out.past hb5)
  replace HT3 := Lib.hid (HT3.out.past hb5)
  refine (set_tree _ g3 J HT3.out HGJ.out 5 (by decide) _ [120] hS5 (by decide) (hg.below HB.out)).mono ?_
  rintro e w6 ⟨M, rfl, ht6, hgood6, hlv6, hgr6⟩
  rw [HLJ.out, HEF.out] at hlv6
  have HT6 := Lib.hid ht6
  have HGM := Lib.hid hgood6
  have HLM := Lib.hid hlv6
  replace HT := Lib.hid (HT.out.grown hgr6 (fun e => HNE.out e.symm))
  replace HB := Lib.hid (Below.only HB.out hgr6 HGG3.out HB.out.size)
  clear ht6 hgood6 hlv6 hgr6 hS5 hb5 kc
  go_wp2_with fail
  refine (diff_x w6 g3 g M K HT6.out HT.out E F HE HF HGM.out HGK.out HLM.out HLK.out).mono ?_
  rintro e w7 ⟨v7, rfl, ho7, hb7⟩
  have HO7 := Lib.hid ho7
  obtain ⟨A7, c7, rfl, _⟩ := ho7.si
  replace HT := Lib.hid (HT.out.past hb7)
  replace HT6 := Lib.hid (HT6.out.past hb7)
  replace HB := Lib.hid (HB.out.trans (hb7.mono HB.out.size))
  clear ho7 hb7
  go_wp2_with fail
  refine (node_out w7 g3 M HT6.out 128 (.inr (by decide))).mono ?_
  rintro e w8 ⟨rfl, hb8⟩
  replace HT := Lib.hid (HT.out.past hb8)
  replace HT6 := Lib.hid (HT6.out.past hb8)
  replace HB := Lib.hid (HB.out.trans (hb8.mono HB.out.size))
  have HS8 := Lib.hid (HO7.out.si.below hb8)
  clear hb8 HO7
  have hi := rowB_info zero32_length
  have h1 := rowB_one zero32
  have hs1 := rowB_size zero32
  rw [zero32_length] at hs1
  have hN := Blk.new w8 39 (rowB (List.replicate 32 0))
  have hb9 : Below w8.heap.size w8 (w8.alloc (.cells (rowB (List.replicate 32 0)) 39)) := (Below.refl _ _).alloc (Nat.le_refl _) _
  have hZ : (rowB (List.replicate 32 0)).size = 32 := by rw [rowB_size, List.length_replicate]
  generalize hR : rowB zero32 = R at hi h1 hs1 ⊢
  clear hR
  have hth : (w8.alloc (.cells (rowB (List.replicate 32 0)) 39)).there w8.heap.size 0 R.size := by rw [hs1, ← hZ]; exact hN.there
  have hgr := grown_setCells w8.heap.size R.toList 0 (w8.alloc (.cells (rowB (List.replicate 32 0)) 39))
  have HBE := Lib.hid (Below.only hb9 hgr (Nat.le_refl _) hb9.size)
  clear hN hb9 hgr hZ hs1
  go_upto_region 7 with (refine wpList_store_mid rfl 39 _ _ rfl w8.heap.size 0 R rfl rfl hth hi h1 ?_)
  change Code.wp _ _ _ _ ((w8.alloc (.cells (rowB (List.replicate 32 0)) 39)).setCells w8.heap.size 0 R.toList)
  generalize (w8.alloc (.cells (rowB (List.replicate 32 0)) 39)).setCells w8.heap.size 0 R.toList = w9 at HBE ⊢
  clear hth hi h1
  replace HT := Lib.hid (HT.out.past HBE.out)
  replace HT6 := Lib.hid (HT6.out.past HBE.out)
  replace HB := Lib.hid (HB.out.trans (HBE.out.mono HB.out.size))
  have HS9 := Lib.hid (HS8.out.below HBE.out)
  clear HBE HS8
  go_wp2_with fail
  refine (leaves_tree w9 g3 M HT6.out).mono ?_
  rintro e w10 ⟨v10, rfl, ho10, hb10⟩
  rw [HLM.out] at ho10
  have HO10 := Lib.hid ho10
  have HFL := Lib.hid (show F.length = 64 by rw [← HEF.out, List.length_set, HEL.out])
  replace HT := Lib.hid (HT.out.past hb10)
  replace HT6 := Lib.hid (HT6.out.past hb10)
  replace HB := Lib.hid (HB.out.trans (hb10.mono HB.out.size))
  replace HS9 := Lib.hid (HS9.out.below hb10)
  obtain ⟨A10, n10, c10, rfl⟩ := ho10.sh.shape
  clear ho10 hb10
  go_wp2_with fail
  refine (of_any w10 _ F HO10.out.sh HFL.out (hg.below HB.out)).mono ?_
  rintro e w11 ⟨g11, P, rfl, hg11, ht11, hgood11, hlv11, hb11⟩
  have HT11 := Lib.hid ht11
  have HLP := Lib.hid hlv11
  replace HT := Lib.hid (HT.out.past hb11)
  replace HT6 := Lib.hid (HT6.out.past hb11)
  replace HB := Lib.hid (HB.out.trans (hb11.mono HB.out.size))
  replace HS9 := Lib.hid (HS9.out.below hb11)
  clear HO10 hg11 ht11 hgood11 hlv11 hb11
  go_wp2_with (go_at_call 17; refine (num_any _ _).mono ?_; rintro e w' ⟨rfl, rfl⟩)
  have hbI : Below w11.heap.size w11 (w11.alloc (.cells #[.int .i64 ((5 : Nat) : Int)] 3)) := (Below.refl _ _).alloc (Nat.le_refl _) _
  refine (ints_any _ _ [5] [5] _ (HS9.out.below hbI) (Si.one w11 5) (by decide) (by decide)).mono ?_
  rintro e w12 ⟨rfl, hb12⟩
  have hb12' := hbI.trans (hb12.mono hbI.size)
  replace HT := Lib.hid (HT.out.past hb12')
  replace HT6 := Lib.hid (HT6.out.past hb12')
  replace HT11 := Lib.hid (HT11.out.past hb12')
  replace HB := Lib.hid (HB.out.trans (hb12'.mono HB.out.size))
  clear hbI hb12 hb12'
  go_wp2_with (go_at_call 17; refine (num_any _ _).mono ?_; rintro e w' ⟨rfl, rfl⟩)
  refine (same_tree w12 g11 g3 P M HT11.out HT6.out).mono ?_
  rintro e w13 ⟨rfl, hb13⟩
  replace HT := Lib.hid (HT.out.past hb13)
  replace HT11 := Lib.hid (HT11.out.past hb13)
  replace HB := Lib.hid (HB.out.trans (hb13.mono HB.out.size))
  clear hb13
  rw [decide_eq_true (show leavesOf P = leavesOf M by rw [HLP.out, HLM.out])]
  go_wp2_with fail
  refine (same_tree w13 g11 g P K HT11.out HT.out).mono ?_
  rintro e w14 ⟨rfl, hb14⟩
  replace HB := Lib.hid (HB.out.trans (hb14.mono HB.out.size))
  clear hb14
  rw [decide_eq_false (show ¬ leavesOf P = leavesOf K by rw [HLP.out, HLK.out, HF.out, HE.out]; exact known_unlike)]
  go_wp2
  go_ret
  exact ⟨rfl, HB.out⟩
end Go.Proofs.YtdbhffkfkklehaaDoor

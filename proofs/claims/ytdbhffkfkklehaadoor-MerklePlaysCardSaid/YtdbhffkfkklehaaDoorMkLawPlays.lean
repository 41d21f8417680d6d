/-
  The law MerklePlays.
-/
import Derived.Test.YtdbhffkfkklehaaDoorMkSetLaw
namespace Go.Proofs.YtdbhffkfkklehaaDoor
open Go.RowKit
set_option linter.unusedVariables false
set_option linter.unusedSimpArgs false
set_option maxRecDepth 100000

set_option maxHeartbeats 4000000 in
theorem merklePlays_any (w : World) (v u : Value) (L M : List MSt) (h : Mts w v L) (h' : Mts w u M) (hg : Gl w) : Calls Tryd.prog 3 #[v, u] w fun e w' => e = .returned (.bool true) ∧ Below w.heap.size w w' := by
  obtain ⟨i0, hi, hz0, hz1, hz2⟩ := info_parts info_hash
  have HS := Lib.hid h
  have HS' := Lib.hid h'
  obtain ⟨A, c, rfl, _, _⟩ := h
  obtain ⟨A', c', rfl, _, _⟩ := h'
  go_enter Tryd.func3, Tryd.ntmps3
  go_wp2_with fail
  refine (much_any _ L w HS.out).mono ?_
  rintro e w0 ⟨r, rfl, hb0, hr⟩
  have HB0 := Lib.hid hb0
  have HR := Lib.hid hr
  clear hb0 hr
  cases r with
  | true =>
    go_wp2_with fail
    refine (known_any w0 (hg.below HB0.out)).mono ?_
    rintro e w1 ⟨rfl, hb1⟩
    have HB1 := Lib.hid (HB0.out.trans (hb1.mono HB0.out.size))
    clear hb1
    go_wp2
    go_ret
    exact ⟨rfl, HB1.out⟩
  | false =>
    have HF1 := Lib.hid (HR.out rfl)
    clear HR
    go_wp2_with fail
    refine (much_any _ M w0 (HS'.out.below HB0.out)).mono ?_
    rintro e w1 ⟨r2, rfl, hb1, hr2⟩
    have HB1 := Lib.hid (HB0.out.trans (hb1.mono HB0.out.size))
    have HR := Lib.hid hr2
    clear hb1 hr2
    cases r2 with
    | true =>
      go_wp2_with fail
      refine (known_any w1 (hg.below HB1.out)).mono ?_
      rintro e w2 ⟨rfl, hb2⟩
      have HB2 := Lib.hid (HB1.out.trans (hb2.mono HB1.out.size))
      clear hb2
      go_wp2
      go_ret
      exact ⟨rfl, HB2.out⟩
    | false =>
      have HF2 := Lib.hid (HR.out rfl)
      clear HR
      go_wp2_with fail
      refine (new_any w1 (hg.below HB1.out)).mono ?_
      rintro e w2 ⟨g, K0, rfl, hgg, ht, hgood, hlv, hb2⟩
      have HB2 := Lib.hid (HB1.out.trans (hb2.mono HB1.out.size))
      have HT2 := Lib.hid ht
      have HG0 := Lib.hid hgood
      have HLV := Lib.hid hlv.symm
      have HGG := Lib.hid (Nat.le_trans HB1.out.size hgg)
      clear hb2 ht hgood hlv hgg
      go_wp2_with fail
      refine (refEmpty_any w2).mono ?_
      rintro e w3 ⟨v3, rfl, ho3, hb3⟩
      rw [HLV.out] at ho3
      obtain ⟨A3, n3, c3, rfl⟩ := ho3.sh.shape
      obtain ⟨gl, rfl, hn3, hgl1, hgl2, _⟩ := ho3.block (by rw [leavesOf_length]; decide)
      rw [leavesOf_length] at hn3
      subst hn3
      have HO3 := Lib.hid ho3
      have HT3 := Lib.hid (HT2.out.past hb3)
      have HB3 := Lib.hid (HB2.out.trans (hb3.mono HB2.out.size))
      have HGL := Lib.hid (show w.heap.size ≤ gl from Nat.le_trans HB2.out.size hgl1)
      have HNE := Lib.hid (show g ≠ gl by have := HT2.out.lt; omega)
      clear ho3 hb3 hgl1 hgl2
      go_wp2_with fail
      refine (lawSet_any w w3 g gl w2.heap.size c3 K0 _ L HS.out HF1.out HB3.out HGG.out HGL.out HNE.out HT3.out HG0.out HO3.out hg).mono ?_
      rintro e w4 ⟨K1, rfl, ht4, hgood4, ho4, hkp4⟩
      have HT4 := Lib.hid ht4
      have HG1 := Lib.hid hgood4
      have HO4 := Lib.hid ho4
      have HB4 := Lib.hid (Kp.below HB3.out hkp4 HB3.out.size HGG.out HGL.out)
      clear ht4 hgood4 ho4 hkp4
      go_wp2_with fail
      refine (stands_any w4 g K1 _ (leavesOf K1) HT4.out HG1.out HO4.out.sh rfl).mono ?_
      rintro e w5 ⟨rfl, hb5⟩
      have HT5 := Lib.hid (HT4.out.past hb5)
      have HO5 := Lib.hid (HO4.out.below hb5)
      have HB5 := Lib.hid (HB4.out.trans (hb5.mono HB4.out.size))
      clear hb5
      go_wp2_with fail
      refine (copy_tree w5 g K1 HT5.out).mono ?_
      rintro e w6 ⟨g2, rfl, hg2, ht6, hb6⟩
      have HT6 := Lib.hid (HT5.out.past hb6)
      have HO6 := Lib.hid (HO5.out.below hb6)
      have HB6 := Lib.hid (HB5.out.trans (hb6.mono HB5.out.size))
      have HC6 := Lib.hid ht6
      have HN1 := Lib.hid (show g ≠ g2 by have := HT5.out.lt; omega)
      have HN2 := Lib.hid (show gl ≠ g2 by have := (HO5.out.lt gl rfl).2; omega)
      have HG2 := Lib.hid (show w.heap.size ≤ g2 from Nat.le_trans HB5.out.size hg2)
      clear hg2 ht6 hb6
      have hlen : ([] : List (List UInt8)).length + (leavesOf K1).length ≤ 1000000 := by rw [leavesOf_length]; decide
      have hs6 := HO6.out.sh
      go_upto_region 9 with (at_builtin; refine wpList_append_hs _ rfl _ _ 27 rfl w6.heap.size i0 Tryd.underlying27 hi hz0 hz1 hz2 (.slice none 0 0) [] rfl OwnH.nil (.slice (some ⟨gl, 0, none⟩) 64 c3) (leavesOf K1) rfl hs6 hlen (Nat.le_refl _) ?_)
      intro v7 w7 ho7 hb7
      have ho7' : OwnH w7 w6.heap.size v7 (leavesOf K1) := by simpa using ho7
      obtain ⟨A7, n7, c7, rfl⟩ := ho7'.sh.shape
      obtain ⟨gm, rfl, hn7, hgm1, hgm2, _⟩ := ho7'.block (by rw [leavesOf_length]; decide)
      rw [leavesOf_length] at hn7
      subst hn7
      have HO7 := Lib.hid ho7'
      have HT7 := Lib.hid (HT6.out.past hb7)
      have HC7 := Lib.hid (HC6.out.past hb7)
      have HL7 := Lib.hid (HO6.out.below hb7)
      have HB7 := Lib.hid (HB6.out.trans (hb7.mono HB6.out.size))
      have HGM := Lib.hid (show w.heap.size ≤ gm from Nat.le_trans HB6.out.size hgm1)
      have HN3 := Lib.hid (show g2 ≠ gm by have := HC6.out.lt; omega)
      have HN4 := Lib.hid (show g ≠ gm by have := HT6.out.lt; omega)
      have HN5 := Lib.hid (show gl ≠ gm by have := (HO6.out.lt gl rfl).2; omega)
      clear ho7 ho7' hb7 hgm1 hgm2 hlen hs6
      go_wp2_with fail
      refine (lawSet_any w w7 g2 gm w6.heap.size c7 K1 _ M HS'.out HF2.out HB7.out HG2.out HGM.out HN3.out HC7.out HG1.out HO7.out hg).mono ?_
      rintro e w8 ⟨K2, rfl, ht8, hgood8, ho8, hkp8⟩
      have HC8 := Lib.hid ht8
      have HGK2 := Lib.hid hgood8
      have HO8 := Lib.hid ho8
      have HT8 := Lib.hid (Kp.tr HT7.out hkp8 HN1.out HN4.out)
      have HL8 := Lib.hid (Kp.own HL7.out hkp8 (fun k hk => by injection hk with hk; subst hk; exact ⟨HN2.out, HN5.out⟩))
      have HB8 := Lib.hid (Kp.below HB7.out hkp8 HB7.out.size HG2.out HGM.out)
      clear ht8 hgood8 ho8 hkp8
      go_wp2_with fail
      refine (stands_any w8 g2 K2 _ (leavesOf K2) HC8.out HGK2.out HO8.out.sh rfl).mono ?_
      rintro e w9 ⟨rfl, hb9⟩
      have HC9 := Lib.hid (HC8.out.past hb9)
      have HO9 := Lib.hid (HO8.out.below hb9)
      have HT9 := Lib.hid (HT8.out.past hb9)
      have HL9 := Lib.hid (HL8.out.below hb9)
      have HB9 := Lib.hid (HB8.out.trans (hb9.mono HB8.out.size))
      clear hb9
      go_wp2_with fail
      refine (stands_any w9 g K1 _ (leavesOf K1) HT9.out HG1.out HL9.out.sh rfl).mono ?_
      rintro e w10 ⟨rfl, hb10⟩
      have HC10 := Lib.hid (HC9.out.past hb10)
      have HO10 := Lib.hid (HO9.out.below hb10)
      have HT10 := Lib.hid (HT9.out.past hb10)
      have HL10 := Lib.hid (HL9.out.below hb10)
      have HB10 := Lib.hid (HB9.out.trans (hb10.mono HB9.out.size))
      clear hb10
      go_wp2_with fail
      refine (same_tree w10 g2 g K2 K1 HC10.out HT10.out).mono ?_
      rintro e w11 ⟨rfl, hb11⟩
      have HO11 := Lib.hid (HO10.out.below hb11)
      have HL11 := Lib.hid (HL10.out.below hb11)
      have HB11 := Lib.hid (HB10.out.trans (hb11.mono HB10.out.size))
      obtain ⟨D, hD⟩ : ∃ D : Bool, decide (leavesOf K2 = leavesOf K1) = D := ⟨_, rfl⟩
      rw [hD]
      have HD := Lib.hid hD
      clear hb11 hD
      go_wp2_with fail
      refine (refSame_any _ _ (leavesOf K2) (leavesOf K1) w11 HO11.out.sh HL11.out.sh (by rw [leavesOf_length]; decide) (by rw [leavesOf_length]; decide)).mono ?_
      rintro e w12 ⟨rfl, hb12⟩
      rw [HD.out]
      have HB12 := Lib.hid (HB11.out.trans (hb12.mono HB11.out.size))
      clear hb12
      cases D
      all_goals go_wp2_with fail
      all_goals refine (known_any w12 (hg.below HB12.out)).mono ?_
      all_goals rintro e w13 ⟨rfl, hb13⟩
      all_goals have HB13 := Lib.hid (HB12.out.trans (hb13.mono HB12.out.size))
      all_goals clear hb13
      all_goals go_wp2
      all_goals go_ret
      all_goals exact ⟨rfl, HB13.out⟩
end Go.Proofs.YtdbhffkfkklehaaDoor

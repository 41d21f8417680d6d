/-
  NetPlays: act by act both nets answer alike, and look alike; a copy goes on apart.
-/
import Derived.Test.YtellbmghahgjfaaNfO
namespace Go.Proofs.Ytellbmghahgjfaa
open Go.RowKit Go.Maps
open NetM
set_option linter.unusedVariables false
set_option linter.unusedSimpArgs false
set_option maxRecDepth 20000
theorem Two.apart {B : Nat} {w w' : World} {p b x p2 b2 x2 : Nat} {E lv lr lv2 lr2 : Int} {V R V2 R2 : List (Fl Pl)} (h : Two B w p b x E lv V lr R) (h2 : Two B w p2 b2 x2 E lv2 V2 lr2 R2) (ha : ∀ i, Of3 p2 b2 x2 i → ¬ Of3 p b x i) (k : Keep (Of3 p b x) w w') : Two B w' p2 b2 x2 E lv2 V2 lr2 R2 :=
  h2.kept k (ha _ (.inl (.inl rfl))) (ha _ (.inl (.inr rfl))) (ha _ (.inr rfl)) h.off
theorem half_eq (n k : Nat) : (((k : Int) == (n : Int).tdiv 2)) = decide (k = n / 2) := by
  have : (n : Int).tdiv 2 = ((n / 2 : Nat) : Int) := rfl
  rw [this, Bool.eq_iff_iff]
  simp only [beq_iff_eq, decide_eq_true_eq]
  omega
theorem half_eq2 (n k : Nat) : (((k : Int) == (n : Int) / 2)) = decide (k = n / 2) := by
  rw [Bool.eq_iff_iff]
  simp only [beq_iff_eq, decide_eq_true_eq]
  omega
theorem half_eq3 (n k : Nat) : (((k : Int) == ((n / 2 : Nat) : Int))) = decide (k = n / 2) := by
  rw [Bool.eq_iff_iff]
  simp only [beq_iff_eq, decide_eq_true_eq]
  omega
set_option maxHeartbeats 16000000 in
theorem netPlays_any (ends : Int) (v : Value) (L : List NA.St) (leave : Int) (w : World) (hs : NA.Sts w v L) (h1 : -9223372036854775808 ≤ ends) (h2 : ends ≤ 9223372036854775807) (hl1 : -9223372036854775808 ≤ leave) (hl2 : leave ≤ 9223372036854775807) :
    Calls Try.prog 3 #[.int .i64 ends, v, .int .i64 leave] w fun e w' => e = .returned (.bool true) ∧ Below w.heap.size w w' := by
  have hfo : Try.prog.follows .mixedOrders = true := by kernel_rfl
  obtain ⟨A, c, rfl, hc, ha⟩ := hs
  have HMU := Lib.hid (fun X hX => NA.much_any (.slice A L.length c) L X (NA.Sts.below ⟨A, c, rfl, hc, ha⟩ hX : NA.Sts X _ L))
  have Ha := Lib.hid ha
  clear ha
  by_cases hE : 1 ≤ ends ∧ ends ≤ 16
  rotate_left
  · have HNB := Lib.hid (new_bad ends hE w)
    by_cases hE1 : ends < 1
    · go_enter Try.func3, Try.ntmps3
      go_wp2_with (first | (go_at_call 9; refine HNB.out.mono ?_; rintro e w1 ⟨rfl, hwd⟩; obtain rfl := hwd.symm) | (go_at_call 10; refine (num_any _ _).mono ?_; rintro e w2 ⟨rfl, hwd⟩; obtain rfl := hwd.symm) | (go_at_call 11; refine (nknown_any _).mono ?_; rintro e w3 ⟨rfl, hb3⟩))
      go_ret
      exact ⟨rfl, hb3⟩
    · have hE2 : 16 < ends := by omega
      go_enter Try.func3, Try.ntmps3
      go_wp2_with (first | (go_at_call 9; refine HNB.out.mono ?_; rintro e w1 ⟨rfl, hwd⟩; obtain rfl := hwd.symm) | (go_at_call 10; refine (num_any _ _).mono ?_; rintro e w2 ⟨rfl, hwd⟩; obtain rfl := hwd.symm) | (go_at_call 11; refine (nknown_any _).mono ?_; rintro e w3 ⟨rfl, hb3⟩))
      go_ret
      exact ⟨rfl, hb3⟩
  have hE1 : ¬ ends < 1 := by omega
  have hE2 : ¬ 16 < ends := by omega
  have HNW := Lib.hid (new_any ends hE.1 hE.2 w)
  clear hE
  go_enter Try.func3, Try.ntmps3
  go_upto_region 4 with (go_at_call 9; refine HNW.out.mono ?_; rintro e w1 ⟨p, b, rfl, hN, hb1, hp, hbb⟩)
  go_upto_region 6 with (go_at_call 12; refine (HMU.out w1 hb1).mono ?_; rintro e w2 ⟨r, rfl, rfl, hfew⟩; cases r)
  rotate_left
  · go_wp2_with (go_at_call 11; refine (nknown_any _).mono ?_; rintro e w2 ⟨rfl, hb⟩)
    go_ret
    exact ⟨rfl, hb1.trans (hb.mono hb1.size)⟩
  have hF := hfew trivial
  have hF60 := hF.len
  have HFB := Lib.hid hF.b
  clear hfew HMU HNW hF
  have hM0 := two_new hN hb1 hp hbb
  have hB0 := hb1.alloc hb1.size (.cells #[.slice none 0 0, .int .i64 ends, .int .i64 0] 33)
  obtain ⟨x, hx⟩ : ∃ x, w1.heap.size = x := ⟨_, rfl⟩
  clear hN hb1 hp hbb
  go_upto_region 7 with fail
  rw [hx] at hM0
  try rw [hx]
  generalize w1.alloc (.cells #[.slice none 0 0, .int .i64 ends, .int .i64 0] 33) = W at hM0 hB0 ⊢
  clear hx
  go_upto_region 9 with (go_at_call 10; refine (num_any _ _).mono ?_; rintro e w2 ⟨rfl, hwd⟩; obtain rfl := hwd.symm)
  have HCN := Lib.hid (show ∀ X lv V R, Two w.heap.size X p b x ends lv V lv R → Calls Try.prog 13 #[.pointer (some ⟨p, 0, none⟩)] X fun e W' => ∃ p2 b2 K G, e = .returned (.pointer (some ⟨p2, 0, none⟩)) ∧ (Nt W' p2 b2 ends lv K V G ∧ ∀ i, G i → w.heap.size ≤ i) ∧ X.heap.size ≤ p2 ∧ X.heap.size ≤ b2 ∧ Below X.heap.size X W' from fun X lv V R hT => by
    obtain ⟨K, G, hn, hG⟩ := hT.nt
    exact (copyNet_any hn).mono fun e w' ⟨p2, b2, h1, h2, h3, h4, h5⟩ => ⟨p2, b2, K, G, h1, ⟨h2, hG⟩, h3, h4, h5⟩)
  have HCR := Lib.hid (show ∀ X lv V R, w.heap.size ≤ X.heap.size → R.length ≤ 100000 → Two w.heap.size X p b x ends lv V lv R → Calls Try.prog 14 #[.pointer (some ⟨x, 0, none⟩)] X fun e W' => ∃ x2 s2, e = .returned (.pointer (some ⟨x2, 0, none⟩)) ∧ Rn W' x2 s2 ends lv R w.heap.size ∧ X.heap.size ≤ x2 ∧ Below X.heap.size X W' from fun X lv V R hB hR hT => by
    obtain ⟨s, hr⟩ := hT.rf
    exact copyRef_any hr hB hR)
  go_upto_region 10 with (first | (go_at_call 13; refine (HCN.out W 0 [] [] hM0).mono ?_; rintro e W2 ⟨p2, b2, K2, G2, rfl, hn2, hp2, hb2, hbW2⟩; have hM2 := hM0.below hbW2; have hW2 := hB0.trans (hbW2.mono hB0.size)) | (go_at_call 14; refine (HCR.out W2 0 [] [] hW2.size (by simp) hM2).mono ?_; rintro e W3 ⟨x2, s2, rfl, hr2, hx2, hbW3⟩))
  have hM3 := hM2.below hbW3
  have hW3 := hW2.trans (hbW3.mono hW2.size)
  have hC3 : Two w.heap.size W3 p2 b2 x2 ends 0 [] 0 [] := ⟨⟨K2, G2, hn2.1.below hbW3, hn2.2⟩, ⟨s2, hr2⟩, Nat.le_trans hB0.size hp2, Nat.le_trans hB0.size hb2⟩
  have hAp : ∀ i, Of3 p2 b2 x2 i → ¬ Of3 p b x i := fun i hi ho => by
    have h5 := hM0.lt3 i ho
    have h6 := hbW2.size
    rcases hi with (rfl | rfl) | rfl <;> omega
  clear hM0 hM2 hn2 hr2 hp2 hb2 hx2 hbW2 hbW3 hW2 hB0
  go_wp2
  go_loopw [10, 11, 12] (fun cc vv z wr => ∃ (k : Nat) (lv lv2 : Int) (V R V2 R2 : List (Fl Pl)) (p2 b2 x2 : Nat), k ≤ L.length ∧ z = .int .i64 (k : Int) ∧ cc = .pointer (some ⟨p2, 0, none⟩) ∧ vv = .pointer (some ⟨x2, 0, none⟩) ∧ lv ≤ 70 * (k : Int) ∧ lv2 ≤ 70 * (k : Int) ∧ Below w.heap.size w wr ∧ Two w.heap.size wr p b x ends lv V lv R ∧ Hid (pv V = pv R) ∧ Two w.heap.size wr p2 b2 x2 ends lv2 V2 lv2 R2 ∧ Hid (pv V2 = pv R2) ∧ Hid (∀ i, Of3 p2 b2 x2 i → ¬ Of3 p b x i)) (fun _ _ z _ => L.length - (intOf z).toNat)
  case atStart => exact ⟨0, 0, 0, [], [], [], [], p2, b2, x2, Nat.zero_le _, rfl, rfl, rfl, by omega, by omega, hW3, hM3, Lib.hid rfl, hC3, Lib.hid rfl, Lib.hid hAp⟩
  case round =>
    clear hW3 hM3 hC3 hAp
    obtain ⟨k, lv, lv2, V, R, V2, R2, p2, b2, x2, hk, rfl, rfl, rfl, hlv, hlv2, hb, hM, he, hC, he2, hAp⟩ := hrel
    have hkM : (k : Int) ≤ 60 := by omega
    by_cases hlt : k < L.length
    · obtain ⟨bb, o, rfl, h0, hcs⟩ := act_at Ha.out k hlt
      obtain ⟨c0, c1, c2, c3⟩ := hcs wr hb
      have hkI : (k : Int) < (L.length : Int) := by omega
      have HDO := Lib.hid (do_any hb hM he.out (by omega) L[k] h0 (HFB.out _ (List.getElem_mem hlt)))
      have HCS := Lib.hid hcs
      have HQ := Lib.hid (show OkP (L[k].x, L[k].y) ∧ ∃ A n c, L[k].bv = .slice A n c from ⟨⟨h0.x1, h0.x2, h0.y1, h0.y2⟩, h0.b.shape⟩)
      clear h0 hcs
      generalize L[k] = s at HDO HCS HQ c0 c1 c2 c3
      obtain ⟨kd, sx, sy, sb, sbv⟩ := s
      simp only at HDO HCS HQ c0 c1 c2 c3
      have hhf := half_eq L.length k
      have hhf2 := half_eq2 L.length k
      have hhf3 := half_eq3 L.length k
      have hM' := Lib.hid hM
      have hC' := Lib.hid hC
      have hb' := Lib.hid hb
      clear hM hC hb
      go_upto_region 15 with (first | (go_at_call 15; refine HDO.out.mono ?_; rintro e Z ⟨rfl, hkZ, lv1, V1, R1, hl1, hT1, he1⟩; have hbZ := Keep.below hb'.out hkZ hb'.out.size hM'.out.ge3; obtain ⟨d0, d1, d2, d3⟩ := HCS.out Z hbZ) | (go_at_call 16; refine (looks_any hT1 he1 kd (sx, sy) HQ.out.1 sbv HQ.out.2 leave).mono ?_; rintro e Z2 ⟨rfl, hbZ2⟩))
      have hT2 := hT1.below hbZ2
      have hC2 := (hM'.out.apart hC'.out hAp.out hkZ).below hbZ2
      have hb2 := hbZ.trans (hbZ2.mono hbZ.size)
      have hR2 : R1.length ≤ 100000 := by have := pv_lens he1; have := hT2.few; omega
      clear d0 d1 d2 d3 c0 c1 c2 c3 hkZ hbZ hbZ2 hT1 hM' hC' hb' HDO HCS HQ
      by_cases hh : k = L.length / 2
      · have hhb : decide (k = L.length / 2) = true := decide_eq_true hh
        rw [hhb] at hhf hhf2 hhf3
        clear hh hhb
        go_wp2_with (first | (go_at_call 13; refine (HCN.out Z2 lv1 V1 R1 hT2).mono ?_; rintro e W2 ⟨p3, b3, K3, G3, rfl, hn3, hp3, hb3, hbW2⟩; have hM4 := hT2.below hbW2; have hW4 := hb2.trans (hbW2.mono hb2.size)) | (go_at_call 14; refine (HCR.out W2 lv1 V1 R1 hW4.size hR2 hM4).mono ?_; rintro e W3 ⟨x3, s3, rfl, hr3, hx3, hbW3⟩))
        have hC5 : Two w.heap.size W3 p3 b3 x3 ends lv1 V1 lv1 R1 := ⟨⟨K3, G3, hn3.1.below hbW3, hn3.2⟩, ⟨s3, hr3⟩, Nat.le_trans hb2.size hp3, Nat.le_trans hb2.size hb3⟩
        have hAp3 : ∀ i, Of3 p3 b3 x3 i → ¬ Of3 p b x i := fun i hi ho => by
          have h5 := hT2.lt3 i ho
          have h6 := hbW2.size
          rcases hi with (rfl | rfl) | rfl <;> omega
        go_roundw
        case rel => exact ⟨k + 1, lv1, lv1, V1, R1, V1, R1, p3, b3, x3, by omega, by go_num, rfl, rfl, by omega, by omega, hW4.trans (hbW3.mono hW4.size), hM4.below hbW3, Lib.hid he1, hC5, Lib.hid he1, Lib.hid hAp3⟩
        case measure => simp [intOf]; omega
      · have hhb : decide (k = L.length / 2) = false := decide_eq_false hh
        rw [hhb] at hhf hhf2 hhf3
        clear hh hhb
        go_wp2
        go_roundw
        case rel => exact ⟨k + 1, lv1, lv2, V1, R1, V2, R2, p2, b2, x2, by omega, by go_num, rfl, rfl, by omega, by omega, hb2, hT2, Lib.hid he1, hC2, he2, hAp⟩
        case measure => simp [intOf]; omega
    · obtain rfl : k = L.length := by omega
      clear hlt hk HCN HCR
      have HM := Lib.hid (And.intro hlv hlv2)
      clear hlv hlv2
      go_wp2
      go_loopw [13] (fun z wx => ∃ (k : Nat) (l2 : Int) (V3 R3 : List (Fl Pl)), k ≤ L.length ∧ z = .int .i64 (k : Int) ∧ l2 ≤ 4200 + 70 * (k : Int) ∧ Below w.heap.size w wx ∧ Two w.heap.size wx p b x ends lv V lv R ∧ Two w.heap.size wx p2 b2 x2 ends l2 V3 l2 R3 ∧ Hid (pv V3 = pv R3)) (fun z _ => L.length - (intOf z).toNat)
      case atStart => exact ⟨0, lv2, V2, R2, Nat.zero_le _, rfl, by have := HM.out.2; omega, hb, hM, hC, he2⟩
      case round =>
        clear hb hM hC
        obtain ⟨k, l2, V3, R3, hk, rfl, hlv, hb, hM, hC, he3⟩ := hrel
        have hkM2 : (k : Int) ≤ 60 := by omega
        by_cases hlt : k < L.length
        · obtain ⟨bb, o, rfl, h0, hcs⟩ := act_at Ha.out k hlt
          obtain ⟨c0, c1, c2, c3⟩ := hcs wr hb
          have hkI : (k : Int) < (L.length : Int) := by omega
          have HDO := Lib.hid (do_any hb hC he3.out (by omega) L[k] h0 (HFB.out _ (List.getElem_mem hlt)))
          have HCS := Lib.hid hcs
          have HQ := Lib.hid (show OkP (L[k].x, L[k].y) ∧ ∃ A n c, L[k].bv = .slice A n c from ⟨⟨h0.x1, h0.x2, h0.y1, h0.y2⟩, h0.b.shape⟩)
          have HAB := Lib.hid (show ∀ i, Of3 p b x i → ¬ Of3 p2 b2 x2 i from fun i h1 h2 => hAp.out i h2 h1)
          clear h0 hcs
          generalize L[k] = s at HDO HCS HQ c0 c1 c2 c3
          obtain ⟨kd, sx, sy, sb, sbv⟩ := s
          simp only at HDO HCS HQ c0 c1 c2 c3
          have hM' := Lib.hid hM
          have hC' := Lib.hid hC
          have hb' := Lib.hid hb
          clear hM hC hb
          go_upto_region 21 with (first | (go_at_call 15; refine HDO.out.mono ?_; rintro e Z ⟨rfl, hkZ, lv1, V1, R1, hl1, hT1, he1⟩; have hbZ := Keep.below hb'.out hkZ hb'.out.size hC'.out.ge3; have hMZ := hC'.out.apart hM'.out HAB.out hkZ; obtain ⟨d0, d1, d2, d3⟩ := HCS.out Z hbZ) | (with_reducible (show Calls _ _ #[.pointer (some ⟨p2, 0, none⟩), _, _, _] _ _); go_at_call 16; refine (looks_any hT1 he1 kd (sx, sy) HQ.out.1 sbv HQ.out.2 0).mono ?_; rintro e Z2 ⟨rfl, hbZ2⟩; have hbZ3 := hbZ.trans (hbZ2.mono hbZ.size); have hMZ2 := hMZ.below hbZ2; obtain ⟨e0, e1, e2, e3⟩ := HCS.out Z2 hbZ3) | (go_at_call 16; refine (looks_any hMZ2 he.out kd (sx, sy) HQ.out.1 sbv HQ.out.2 0).mono ?_; rintro e Z3 ⟨rfl, hbZ4⟩))
          go_wp2
          go_roundw
          case rel => exact ⟨k + 1, lv1, V1, R1, by omega, by go_num, by omega, hbZ3.trans (hbZ4.mono hbZ3.size), hMZ2.below hbZ4, (hT1.below hbZ2).below hbZ4, Lib.hid he1⟩
          case measure => simp [intOf]; omega
        · obtain rfl : k = L.length := by omega
          go_wp2_with (go_at_call 11; refine (nknown_any _).mono ?_; rintro e w2 ⟨rfl, hb3⟩)
          go_ret
          exact ⟨rfl, hb.trans (hb3.mono hb.size)⟩
end Go.Proofs.Ytellbmghahgjfaa

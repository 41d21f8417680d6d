/-
  The walk of CtxOf, lists of at most 100.
-/
import Derived.Test.YtoglhpcboonpeaaCtxRefOf
import Derived.Test.YtoglhpcboonpeaaCtxLawOf2
import Derived.Test.YtoglhpcboonpeaaCtxKnown
import Derived.Test.YtoglhpcboonpeaaCtxOrdM
namespace Go.Proofs.Ytoglhpcboonpeaa
open Go.RowKit
open CtxM
set_option linter.unusedVariables false
set_option linter.unusedSimpArgs false
set_option maxRecDepth 20000

theorem ofP_no {V : List Nat} {X : List Dt} {v : Value} {w : World} (hV : V.length = 16) (ho : OwnD w 0 v X) (h : ¬ OfOk V X) (hl : X.length ≤ 100000) :
    Calls Try.prog 31 #[.agg (uqs V), v] w fun e w' => e = .returned (.tuple #[.pointer none, .int .i64 2]) ∧ Below w.heap.size w w' := by
  by_cases hle : ∀ n ∈ V, n ≤ top
  · exact ofP_unfit hV ho hle (fun hf => h ⟨hle, hf⟩) hl
  · exact ofP_big hV ho hle
theorem own_first {w : World} {base : Nat} {v : Value} {X : List Dt} (h : OwnD w base v X) (hp : 0 < X.length) : ∃ g c, v = .slice (some ⟨g, 0, none⟩) X.length c ∧ base ≤ g ∧ g < w.heap.size ∧ w.cell? ⟨g, 1, none⟩ = some (.int .u64 (X[0].2 : Int)) ∧ w.frozen? ⟨g, 1, none⟩ = false := by
  have hh := h
  rcases h.2 with ⟨rfl, h0⟩ | ⟨g, cap, cur, rfl, hg, hh', _⟩
  · omega
  · have h1 := World.ownsRow.cellAt hh 1 (by omega)
    have h2 := (dvs_get X 0 hp).2
    have h3 := (hh.lt g rfl).2
    exact ⟨g, cap, rfl, hg, h3, by rw [h1]; simpa using h2, World.ownsRow.frozenAt hh 1⟩

set_option maxHeartbeats 8000000 in
theorem ofL_short (V : List Nat) (vx vl : Value) (X L : List Dt) (w : World) (hV : V.length = 16) (hX : Sd w vx X) (hXo : ∀ i, vx.ownBlock = some i → i < w.heap.size) (hL : Sd w vl L) (lx : X.length ≤ 100) (ll : L.length ≤ 100) :
    Calls Try.prog 5 #[.agg (uqs V), vx, vl] w fun e w' => e = .returned (.bool true) ∧ Below w.heap.size w w' := by
  have hfo : Try.prog.follows .mixedOrders = true := by kernel_rfl
  have HX := Lib.hid hX
  have HXO := Lib.hid hXo
  have HL := Lib.hid hL
  have HV := Lib.hid hV
  obtain ⟨A1, c1, rfl, _, _⟩ := hX
  obtain ⟨A2, c2, rfl, _, _⟩ := hL
  obtain ⟨i0, hi0, hz0, hz1, hz2⟩ := info_parts info_dot
  have b1 : decide ((100 : Int) < (X.length : Int)) = false := decide_eq_false (by omega)
  have b2 : ¬ (100 : Int) < (L.length : Int) := by omega
  have hB0 := Blk.new w 52 (uqs V)
  have hb0 : Below w.heap.size w (w.alloc (.cells (uqs V) 52)) := (Below.refl _ _).alloc (Nat.le_refl _) _
  have hs0 := HX.out.alloc (.cells (uqs V) 52)
  have hlen : ([] : List Dt).length + X.length ≤ 1000000 := by simp; omega
  have hbase : w.heap.size + 1 ≤ (w.alloc (.cells (uqs V) 52)).heap.size := by simp
  have hinf := uqs_info hV
  have HLX := Lib.hid lx
  have HLL := Lib.hid ll
  have hfit := addAll_fit L
  have hn : (addAll (zeros, []) L).2.length ≤ 100 := by
    have := addAll_short L (zeros, [])
    simp only [List.length_nil] at this
    omega
  obtain ⟨S, hS⟩ : ∃ S, S = addAll (zeros, []) L := ⟨_, rfl⟩
  rw [← hS] at hfit hn
  have HS := Lib.hid hS
  have HF := Lib.hid hfit
  have HN := Lib.hid hn
  clear lx ll hXo hV hS hfit hn
  go_enter Try.func5, Try.ntmps5
  go_wp2_with (first | (refine wpList_append_dots _ rfl (.const (.slice none 0 0)) (.tmp 24) 22 rfl (w.heap.size + 1) i0 Try.underlying22 hi0 hz0 hz1 hz2 (.slice none 0 0) [] rfl OwnD.nil _ X rfl hs0 hlen hbase ?_; intro v4 w4 ho4 hgr4 _ _; have hb4 : Below w.heap.size w w4 := OwnD.grown (base := w.heap.size + 1) OwnD.nil hgr4 hb0 (by omega) (by omega); have hB4 : Blk w4 w.heap.size 52 (uqs V) := hB0.past (base := w.heap.size + 1) OwnD.nil hgr4 (by omega); rw [List.nil_append] at ho4) | (refine wpList_load_row rfl 52 _ rfl w.heap.size rfl 52 (uqs V) (0, 0) _ hB4 Try.underlying52 rfl hinf ?_))
  have hz4 := Nat.le_trans hbase hgr4.size
  clear hB0 hb0 hs0 hlen hbase hgr4 b1 b2
  have HO4 := Lib.hid ho4
  by_cases hok : OfOk V X
  · have HOK := Lib.hid hok
    refine (ofP_ok HV.out (ho4.mono (Nat.zero_le _)) hok (by have := HLX.out; omega)).mono ?_
    rintro e w5 ⟨hc, vc, rfl, hcx5, hfc5, hb5⟩
    have hb05 := hb4.trans (hb5.mono (by omega))
    have hB5 := hB4.below hb5 hB4.lt
    clear hok
    go_wp2_with (refine wpList_load_row rfl 52 _ rfl w.heap.size rfl 52 (uqs V) (0, 0) _ hB5 Try.underlying52 rfl hinf ?_)
    refine (refOf_any V _ X w5 HV.out (HX.out.below hb05) (by have := HLX.out; omega)).mono ?_
    rintro e w6 ⟨hb6, h6⟩
    obtain ⟨hr, rfl, hblk, hhr⟩ : ∃ h, e = .returned (.tuple #[.pointer (some ⟨h, 0, none⟩), .bool true]) ∧ Blk w6 h 30 (sxc V (.slice A1 X.length c1)) ∧ w5.heap.size ≤ h := by
      rcases h6 with ⟨_, h, a, b, c⟩ | ⟨h, _⟩
      · exact ⟨h, a, b, c⟩
      · exact absurd HOK.out h
    have hb06 := hb05.trans (hb6.mono hb05.size)
    have hcx6 := hcx5.below hb6
    have hz5 := hb5.size
    have hz6 := hb6.size
    have hsx : Sx w6 hr (.slice A1 X.length c1) V X := ⟨hblk, HX.out.below hb06, fun i hi => by have := HXO.out i hi; have := hb06.size; omega, fun e => by have := HXO.out _ e; omega, OfOk.fit HV.out HOK.out⟩
    clear h6 hblk hB4 hB5 hinf hcx5
    go_wp2_with fail
    refine (same_eq hc hr vc _ V X w6 hcx6 hsx (by have := HLX.out; omega)).mono ?_
    rintro e w7 ⟨rfl, hb7⟩
    have hb07 := hb06.trans (hb7.mono hb06.size)
    have hcx7 := hcx6.below hb7
    have hsx7 := hsx.below hb7
    have hz7 := hb7.size
    clear hcx6 hsx
    by_cases hpos : 0 < X.length
    · obtain ⟨g4, c4, rfl, hg4, hg4', hce, hfz⟩ := own_first HO4.out hpos
      have hbb : Below w4.heap.size w4 w7 := (hb5.trans (hb6.mono hz5)).trans (hb7.mono (by omega))
      have hce7 : w7.cell? ⟨g4, 1, none⟩ = some (.int .u64 (X[0].2 : Int)) := (hbb.cell (p := ⟨g4, 1, none⟩) hg4').trans hce
      have hfz7 : w7.frozen? ⟨g4, 1, none⟩ = false := (hbb.frozen (p := ⟨g4, 1, none⟩) hg4').trans hfz
      have hm0 : X[0].2 ≤ top := ((OfOk.fit HV.out HOK.out).may _ (List.getElem_mem hpos)).2.2.2
      obtain ⟨x0, hx0⟩ : ∃ x, X[0].2 = x := ⟨_, rfl⟩
      rw [hx0] at hce7 hm0
      have hw0 : IntKind.u64.wrap ((x0 : Int) + 1) = (x0 : Int) + 1 := by rw [IntKind.wrap_u64]; unfold top at hm0; omega
      have hp1 : decide ((0 : Int) < (X.length : Int)) = true := decide_eq_true (by omega)
      have hp2 : decide (0 < X.length) = true := decide_eq_true hpos
      have hp3 : (0 : Int) < (X.length : Int) := by omega
      have hk7 : Keep (fun i => i = g4) w7 (w7.setCell ⟨g4, 1, none⟩ (.int .u64 ((x0 : Int) + 1))) := Keep.setCell w7 _ _ rfl
      have hcx8 := hcx7.kept hk7 (fun i hi e => by have := hfc5 i hi; omega)
      have hsx8 := hsx7.kept hk7 (fun i hi e => by
        rcases hi with hi | hi
        · omega
        · have := HXO.out i hi; omega)
      have hb08 : Below w.heap.size w (w7.setCell ⟨g4, 1, none⟩ (.int .u64 ((x0 : Int) + 1))) := hb07.setCell (p := ⟨g4, 1, none⟩) (by show w.heap.size ≤ g4; omega) _
      clear hce hfz hx0 hm0 hcx7 hsx7 hk7 hbb hpos
      go_wp2_with fail
      refine (same_eq hc hr vc _ V X _ hcx8 hsx8 (by have := HLX.out; omega)).mono ?_
      rintro e w9 ⟨rfl, hb9⟩
      have hb09 := hb08.trans (hb9.mono hb08.size)
      clear hcx8 hsx8 hb08 hb9 hb07 hb7 hb06 hb6 hb05 hb5 hb4 hp1 hp2 hp3 hw0 hce7 hfz7 hfc5 hg4 hg4' hz4 hz5 hz6 hz7 hhr
      go_wp2_with fail
      refine (of_twin _ L _ (HL.out.below hb09) (by have := HLL.out; omega)).mono ?_
      rintro e w11 ⟨hd, rfl, ht, hb11⟩
      rw [← HS.out] at ht
      obtain ⟨vd, ud, hcd, _⟩ := ht.is
      have hb011 := hb09.trans (hb11.mono hb09.size)
      clear ht hb09 hb11
      go_wp2_with fail
      refine (vector_any _ vd _ _ w11 hcd).mono ?_
      rintro e w12 ⟨rfl, hb12⟩
      have hcd12 := hcd.below hb12
      have hb012 := hb011.trans (hb12.mono hb011.size)
      clear hcd hb011 hb12
      go_wp2_with fail
      refine (extra_any _ vd _ _ w12 hcd12 (by have := HN.out; omega)).mono ?_
      rintro e w13 ⟨ve, rfl, hoe, hb13⟩
      have hcd13 := hcd12.below hb13
      have hb013 := hb012.trans (hb13.mono hb012.size)
      clear hcd12 hb012 hb13
      go_wp2_with fail
      refine (ofP_ok HF.out.len (hoe.mono (Nat.zero_le _)) (fit_ok HF.out) (by have := HN.out; omega)).mono ?_
      rintro e w14 ⟨hf, vf, rfl, hcf, _, hb14⟩
      have hcd14 := hcd13.below hb14
      have hb014 := hb013.trans (hb14.mono hb013.size)
      clear hcd13 hb013 hb14 hoe
      have hsm := same_any hf _ vf vd _ _ _ _ w14 hcf hcd14 (by have := HN.out; omega) (by have := HN.out; omega)
      rw [decide_eq_true ⟨rfl, rfl⟩] at hsm
      go_wp2_with fail
      refine hsm.mono ?_
      rintro e w15 ⟨rfl, hb15⟩
      have hcd15 := hcd14.below hb15
      have hcf15 := hcf.below hb15
      have hb015 := hb014.trans (hb15.mono hb014.size)
      clear hcd14 hcf hb014 hb15 hsm
      have hsm := same_any _ hf vd vf _ _ _ _ w15 hcd15 hcf15 (by have := HN.out; omega) (by have := HN.out; omega)
      rw [decide_eq_true ⟨rfl, rfl⟩] at hsm
      go_wp2_with fail
      refine hsm.mono ?_
      rintro e w16 ⟨rfl, hb16⟩
      have hb016 := hb015.trans (hb16.mono hb015.size)
      clear hcd15 hcf15 hb015 hb16 hsm
      go_wp2_with fail
      refine (known_any w16).mono ?_
      rintro e w17 ⟨rfl, hb17⟩
      go_wp2
      go_ret
      exact ⟨rfl, hb016.trans (hb17.mono hb016.size)⟩
    · have hp1 : decide ((0 : Int) < (X.length : Int)) = false := decide_eq_false (by omega)
      have hp2 : decide (0 < X.length) = false := decide_eq_false hpos
      obtain ⟨A4, n4, c4, rfl⟩ := HO4.out.shape
      obtain rfl := HO4.out.sd.len
      have hb09 := hb07
      clear hcx7 hsx7 hb06 hb6 hb05 hb5 hb4 hfc5 hz4 hz5 hz6 hz7 hhr hpos hb07 hb7
      go_wp2_with fail
      refine (of_twin _ L _ (HL.out.below hb09) (by have := HLL.out; omega)).mono ?_
      rintro e w11 ⟨hd, rfl, ht, hb11⟩
      rw [← HS.out] at ht
      obtain ⟨vd, ud, hcd, _⟩ := ht.is
      have hb011 := hb09.trans (hb11.mono hb09.size)
      clear ht hb09 hb11
      go_wp2_with fail
      refine (vector_any _ vd _ _ w11 hcd).mono ?_
      rintro e w12 ⟨rfl, hb12⟩
      have hcd12 := hcd.below hb12
      have hb012 := hb011.trans (hb12.mono hb011.size)
      clear hcd hb011 hb12
      go_wp2_with fail
      refine (extra_any _ vd _ _ w12 hcd12 (by have := HN.out; omega)).mono ?_
      rintro e w13 ⟨ve, rfl, hoe, hb13⟩
      have hcd13 := hcd12.below hb13
      have hb013 := hb012.trans (hb13.mono hb012.size)
      clear hcd12 hb012 hb13
      go_wp2_with fail
      refine (ofP_ok HF.out.len (hoe.mono (Nat.zero_le _)) (fit_ok HF.out) (by have := HN.out; omega)).mono ?_
      rintro e w14 ⟨hf, vf, rfl, hcf, _, hb14⟩
      have hcd14 := hcd13.below hb14
      have hb014 := hb013.trans (hb14.mono hb013.size)
      clear hcd13 hb013 hb14 hoe
      have hsm := same_any hf _ vf vd _ _ _ _ w14 hcf hcd14 (by have := HN.out; omega) (by have := HN.out; omega)
      rw [decide_eq_true ⟨rfl, rfl⟩] at hsm
      go_wp2_with fail
      refine hsm.mono ?_
      rintro e w15 ⟨rfl, hb15⟩
      have hcd15 := hcd14.below hb15
      have hcf15 := hcf.below hb15
      have hb015 := hb014.trans (hb15.mono hb014.size)
      clear hcd14 hcf hb014 hb15 hsm
      have hsm := same_any _ hf vd vf _ _ _ _ w15 hcd15 hcf15 (by have := HN.out; omega) (by have := HN.out; omega)
      rw [decide_eq_true ⟨rfl, rfl⟩] at hsm
      go_wp2_with fail
      refine hsm.mono ?_
      rintro e w16 ⟨rfl, hb16⟩
      have hb016 := hb015.trans (hb16.mono hb015.size)
      clear hcd15 hcf15 hb015 hb16 hsm
      go_wp2_with fail
      refine (known_any w16).mono ?_
      rintro e w17 ⟨rfl, hb17⟩
      go_wp2
      go_ret
      exact ⟨rfl, hb016.trans (hb17.mono hb016.size)⟩
  · have HOK := Lib.hid hok
    refine (ofP_no HV.out (ho4.mono (Nat.zero_le _)) hok (by have := HLX.out; omega)).mono ?_
    rintro e w5 ⟨rfl, hb5⟩
    have hb05 := hb4.trans (hb5.mono (by omega))
    have hB5 := hB4.below hb5 hB4.lt
    clear hok
    go_wp2_with (refine wpList_load_row rfl 52 _ rfl w.heap.size rfl 52 (uqs V) (0, 0) _ hB5 Try.underlying52 rfl hinf ?_)
    refine (refOf_any V _ X w5 HV.out (HX.out.below hb05) (by have := HLX.out; omega)).mono ?_
    rintro e w6 ⟨hb6, h6⟩
    obtain rfl : e = .returned (.tuple #[.pointer none, .bool false]) := by
      rcases h6 with ⟨h, _⟩ | ⟨_, h⟩
      · exact absurd h HOK.out
      · exact h
    have hb09 := hb05.trans (hb6.mono hb05.size)
    clear h6 hB4 hB5 hinf hb4 hb5 hb05 hb6 hz4
    go_wp2_with fail
    refine (of_twin _ L _ (HL.out.below hb09) (by have := HLL.out; omega)).mono ?_
    rintro e w11 ⟨hd, rfl, ht, hb11⟩
    rw [← HS.out] at ht
    obtain ⟨vd, ud, hcd, _⟩ := ht.is
    have hb011 := hb09.trans (hb11.mono hb09.size)
    clear ht hb09 hb11
    go_wp2_with fail
    refine (vector_any _ vd _ _ w11 hcd).mono ?_
    rintro e w12 ⟨rfl, hb12⟩
    have hcd12 := hcd.below hb12
    have hb012 := hb011.trans (hb12.mono hb011.size)
    clear hcd hb011 hb12
    go_wp2_with fail
    refine (extra_any _ vd _ _ w12 hcd12 (by have := HN.out; omega)).mono ?_
    rintro e w13 ⟨ve, rfl, hoe, hb13⟩
    have hcd13 := hcd12.below hb13
    have hb013 := hb012.trans (hb13.mono hb012.size)
    clear hcd12 hb012 hb13
    go_wp2_with fail
    refine (ofP_ok HF.out.len (hoe.mono (Nat.zero_le _)) (fit_ok HF.out) (by have := HN.out; omega)).mono ?_
    rintro e w14 ⟨hf, vf, rfl, hcf, _, hb14⟩
    have hcd14 := hcd13.below hb14
    have hb014 := hb013.trans (hb14.mono hb013.size)
    clear hcd13 hb013 hb14 hoe
    have hsm := same_any hf _ vf vd _ _ _ _ w14 hcf hcd14 (by have := HN.out; omega) (by have := HN.out; omega)
    rw [decide_eq_true ⟨rfl, rfl⟩] at hsm
    go_wp2_with fail
    refine hsm.mono ?_
    rintro e w15 ⟨rfl, hb15⟩
    have hcd15 := hcd14.below hb15
    have hcf15 := hcf.below hb15
    have hb015 := hb014.trans (hb15.mono hb014.size)
    clear hcd14 hcf hb014 hb15 hsm
    have hsm := same_any _ hf vd vf _ _ _ _ w15 hcd15 hcf15 (by have := HN.out; omega) (by have := HN.out; omega)
    rw [decide_eq_true ⟨rfl, rfl⟩] at hsm
    go_wp2_with fail
    refine hsm.mono ?_
    rintro e w16 ⟨rfl, hb16⟩
    have hb016 := hb015.trans (hb16.mono hb015.size)
    clear hcd15 hcf15 hb015 hb16 hsm
    go_wp2_with fail
    refine (known_any w16).mono ?_
    rintro e w17 ⟨rfl, hb17⟩
    go_wp2
    go_ret
    exact ⟨rfl, hb016.trans (hb17.mono hb016.size)⟩
end Go.Proofs.Ytoglhpcboonpeaa

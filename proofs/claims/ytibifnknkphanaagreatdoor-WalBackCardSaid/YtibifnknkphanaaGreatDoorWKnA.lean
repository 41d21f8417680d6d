/-
  (*Log).Turn.
-/
import Derived.Test.YtibifnknkphanaaGreatDoorWAppA
import Derived.Test.YtibifnknkphanaaGreatDoorWOpenA
import Derived.Test.YtibifnknkphanaaGreatDoorDskCrM
import Derived.Test.YtibifnknkphanaaGreatDoorWOnce
import Derived.Test.YtibifnknkphanaaGreatDoorWRemA
namespace Go.Proofs.YtibifnknkphanaaGreatDoor
open Go.RowKit Go.Maps
open DskM WalM
set_option linter.unusedVariables false
set_option linter.unusedSimpArgs false
set_option maxRecDepth 20000
attribute [local go_sem] Oper.semAt_some
section
variable {D T : Nat → Prop} {w : World} {g p : Nat} {s : ByteArray} {most : Int} {S : Ds} {F : List Fp} {L : Lg}
set_option maxHeartbeats 4000000 in
theorem wturn_any (h : LW D T w g p s most S F L) (hw : S.wr + 5 ≤ 1000000) (hlr : L.recs.length ≤ 1000001) (hsz : s.size ≤ 1000000) (vb : Value) (b : List UInt8) (hb : Sl w vb b) {r : Int × Ds × List Fp × Lg} (hr : turnL s S F L b = r) :
    Calls Tryz.prog 22 #[.pointer (some ⟨g, 0, none⟩), vb] w fun e w' => e = .returned (.int .i64 r.1) ∧ LT D T w g p s most r.2.1 r.2.2.1 r.2.2.2 w' := by
  obtain ⟨i0, hi, hy0, hy1, hy2⟩ := info_parts info_step
  have H := Lib.hid h
  have hnb := h.nb
  obtain ⟨Ab, nbb, cb, rfl⟩ := hb.shape
  unfold turnL at hr
  by_cases hlong : 1048576 < b.length
  · rw [if_pos hlong] at hr
    have HRC := Lib.hid (record_long _ _ w hb hlong)
    obtain ⟨vs, vr, hbg, _⟩ := h.log
    have HRF := Lib.hid (refuses_any hbg 3)
    have HE := Lib.hid h.refl
    clear hb h hbg hlong
    subst hr
    go_enter Tryz.func22, Tryz.ntmps22
    go_wp2_with fail
    refine HRC.out.mono ?_
    rintro e wx ⟨rfl, hwx⟩
    rw [hwx]
    clear hwx wx HRC
    go_wp2_with fail
    refine HRF.out.mono ?_
    rintro e wx ⟨rfl, hwx⟩
    rw [hwx]
    clear hwx wx HRF
    go_wp2
    go_ret
    exact ⟨rfl, HE.out⟩
  · rw [if_neg hlong] at hr
    have HRC := Lib.hid (record_any _ _ w hb (by omega))
    have HRL := Lib.hid (recP_length b)
    clear hb h hlong
    go_enter Tryz.func22, Tryz.ntmps22
    go_wp2_with fail
    refine HRC.out.mono ?_
    rintro e w2 ⟨v2, rfl, ho2, hb2⟩
    obtain ⟨br, cr, hv2, hcr, hbr⟩ := own_some ho2 (by rw [HRL.out]; omega)
    subst hv2
    have h2 := H.out.below hb2
    obtain ⟨vs, vr, hbg, _⟩ := h2.log
    have hrf := refuses_any hbg 0
    have HLD := Lib.hid h2.ld
    have HS2 := Lib.hid (show w2.cell? ⟨g, 1, none⟩ = some (.string s) by rw [hbg.cell]; rfl)
    have HN2 := Lib.hid (show w2.cell? ⟨g, 3, none⟩ = some (.int .i64 (L.num : Int)) by rw [hbg.cell]; rfl)
    have HRF := Lib.hid hrf
    have HO2 := Lib.hid ho2
    have HB2 := Lib.hid hb2
    have HCR := Lib.hid hcr
    have HH2 := Lib.hid h2
    clear ho2 h2 hbg hrf HRC hb2 hcr
    cases hd : L.dead with
    | true =>
      rw [hd] at hr HRF
      have HE := Lib.hid (LT.from HB2.out HH2.out.refl)
      rw [if_pos rfl] at hr
      subst hr
      have hrp : refP 0 true = 7 := rfl
      rw [hrp] at HRF
      clear hd
      go_wp2_with fail
      refine HRF.out.mono ?_
      rintro e wx ⟨rfl, hwx⟩
      rw [hwx]
      clear hwx wx HRF
      go_wp2
      go_ret
      exact ⟨rfl, HE.out⟩
    | false =>
      rw [hd] at hr HRF
      rw [if_neg (by simp)] at hr
      have hrp : refP 0 false = 0 := rfl
      rw [hrp] at HRF
      clear hd
      by_cases hmx : L.num = 2147483647
      · rw [if_pos hmx] at hr
        have HE := Lib.hid (LT.from HB2.out HH2.out.refl)
        subst hr
        have hnc := HN2.out
        rw [hmx] at hnc
        clear hmx hnb
        go_wp2_with fail
        refine HRF.out.mono ?_
        rintro e wx ⟨rfl, hwx⟩
        rw [hwx]
        clear hwx wx HRF
        go_wp2
        go_ret
        exact ⟨rfl, HE.out⟩
      · rw [if_neg hmx] at hr
        have hnc := HN2.out
        obtain ⟨nm, hnm⟩ : ∃ nm, nm = L.num := ⟨_, rfl⟩
        rw [← hnm] at hnc hmx hnb hr
        have hni : (nm : Int) < 2147483647 := by omega
        have hbgn := beginning_any g (nm + 1) s (some ⟨br, 0, none⟩) (recP b).length cr w2 (by omega) hsz HS2.out HLD.out
        rw [show ((nm + 1 : Nat) : Int) = (nm : Int) + 1 by omega] at hbgn
        have HBGN := Lib.hid hbgn
        have HNM := Lib.hid hnm
        have HRR := Lib.hid hr
        have HMX := Lib.hid (show nm + 1 ≤ 2147483647 by omega)
        have hq : ((nm : Int) == 2147483647) = false := by rw [beq_eq_false_iff_ne]; omega
        clear hbgn hnm hr hnb hmx
        go_wp2_with fail
        refine HRF.out.mono ?_
        rintro e wx ⟨rfl, hwx⟩
        rw [hwx]
        clear hwx wx HRF
        go_wp2_with fail
        refine HBGN.out.mono ?_
        rintro e w3 ⟨v3, c0, cs, cl, cn, crr, cf, rfl, hst3, hrem3, hbeg3, hb3⟩
        obtain ⟨w4, hw4⟩ : ∃ w4, w4 = w3.alloc (.cells #[.int .i64 (nm : Int)] 3) := ⟨_, rfl⟩
        have hb4 : Below w3.heap.size w3 w4 := by rw [hw4]; exact al_one w3 _
        have k4 : Blk w4 w3.heap.size 3 #[.int .i64 (nm : Int)] := by rw [hw4]; exact Blk.new w3 _ _
        have hints : IntsAt w4 (.slice (some ⟨w3.heap.size, 0, none⟩) 1 1) [nm] := ⟨_, 1, rfl, fun _ => ⟨w3.heap.size, 0, rfl, fun j hj => by
          have hj0 : j = 0 := by simpa using hj
          subst hj0
          rw [k4.cell]; rfl⟩⟩
        have HRM := Lib.hid (removal_any g _ [nm] w4 hints (by simp))
        have HW4 := Lib.hid hw4
        have HB4 := Lib.hid hb4
        obtain ⟨Ax, cx, hv3⟩ := hst3.shape
        have HB3 := Lib.hid hb3
        have HST3 := Lib.hid hst3
        have HRM3 := Lib.hid hrem3
        have HBG3 := Lib.hid hbeg3
        subst hv3
        clear hw4 hb4 k4 hints hb3 hst3 hrem3 hbeg3 HBGN
        obtain ⟨xs, hxs⟩ : ∃ xs, xs = cs.map (remFn c0) ++ begFns cl cn crr cf := ⟨_, rfl⟩
        rw [← hxs] at HST3 ⊢
        have HXS := Lib.hid hxs
        clear hxs
        go_wp2_with fail
        rw [← HW4.out]
        refine HRM.out.mono ?_
        rintro e w5 ⟨v5, c02, cs2, rfl, hst5, hrem5, hb5⟩
        have hcl : cs2.length = 1 := hrem5.2.2.1
        obtain ⟨A5, c5, hv5⟩ := hst5.shape
        subst hv5
        obtain ⟨b5, hA5, hn5, hB5, hlt5, hcell5⟩ := hst5.cells (by rw [List.length_map, hcl]; omega)
        subst hA5
        obtain ⟨ys, hys⟩ : ∃ ys, ys = cs2.map (remFn c02) := ⟨_, rfl⟩
        have hyl : ys.length = 1 := by rw [hys, List.length_map, hcl]
        rw [← hys] at hst5 hcell5 ⊢
        rw [hyl]
        have hb35 : Below w3.heap.size w3 w5 := HB4.out.trans (hb5.mono HB4.out.size)
        have hb25 : Below w2.heap.size w2 w5 := HB3.out.trans (hb35.mono HB3.out.size)
        have hst35 : Stps w2.heap.size w5 (.slice Ax xs.length cx) xs := HST3.out.below hb35 (Nat.le_refl _)
        have hxl : xs.length = 4 := by rw [HXS.out, List.length_append, List.length_map, HRM3.out.2.2.1]; rfl
        have hcel : ∀ (j : Nat) (u : Value), (ys.map fnV)[j]? = some u → w5.cell? ((⟨b5, 0, none⟩ : Addr).add j) = some u := by
          intro j u hu
          obtain ⟨hj, hu⟩ := List.getElem?_eq_some_iff.1 hu
          rw [List.length_map] at hj
          have := hcell5 j hj
          rw [Nat.zero_add] at this
          rw [add_plain]
          simp only [Nat.zero_add]
          rw [this, ← hu, List.getElem_map]
        have hone : ∀ u ∈ ys.map fnV, u.oneCell' = true := by
          intro u hu
          obtain ⟨x, _, rfl⟩ := List.mem_map.1 hu
          rfl
        have HM := Lib.hid (And.intro hst35 (And.intro hcel (And.intro hone (And.intro (show xs.length + 1 ≤ maxLen by rw [hxl]; decide) (And.intro (show (xs.length + 1) * 8 ≤ 140737488355328 by rw [hxl]; decide) (And.intro hb25.size (show (ys.map fnV).length = 1 * 1 by rw [List.length_map, hyl])))))))
        have HB5 := Lib.hid hb25
        have HB35 := Lib.hid hb35
        have HREM5 := Lib.hid hrem5
        have HYS := Lib.hid hys
        have HYL := Lib.hid (And.intro hxl hyl)
        have HB5s := Lib.hid hb5
        clear hb35 hb25 hst35 hcel hone hys hyl hxl hst5 hcell5 hrem5 hb5 hcl hn5 HRM
        go_wp2_with (at_builtin; go_loud (refine wpList_append_own_at _ rfl _ _ 101 rfl w2.heap.size 150 i0 .nilFunc 1 8 Tryz.underlying101 hi hy0 hy1 hy2 rfl (by decide) (.slice Ax xs.length cx) xs.length (xs.map fnV) rfl HM.out.1 ⟨b5, 0, none⟩ 1 c5 (ys.map fnV) rfl HM.out.2.2.2.2.2.2 HM.out.2.1 HM.out.2.2.1 HM.out.2.2.2.1 HM.out.2.2.2.2.1 HM.out.2.2.2.2.2.1 ?_))
        intro v6 w6 ho6 hg6 _ _
        have hst6 : Stps w2.heap.size w6 v6 (xs ++ ys) := by
          unfold Stps
          rw [List.length_append, HYL.out.2, List.map_append]
          exact ho6
        have hb26 : Below w2.heap.size w2 w6 := grown_below HM.out.1 hg6 HB5.out HB5.out.size
        have hb06 : Below w.heap.size w w6 := HB2.out.trans (hb26.mono HB2.out.size)
        have h6 := H.out.below hb06
        obtain ⟨A6, c6, hv6⟩ := hst6.shape
        subst hv6
        obtain ⟨b6, hA6, hn6, hB6, hlt6, hcell6⟩ := hst6.cells (by rw [List.length_append, HYL.out.1, HYL.out.2]; decide)
        subst hA6
        have hB : ∀ k, w2.heap.size ≤ k → ¬ (D k ∨ T k) := fun k hk => H.out.new (Nat.le_trans HB2.out.size hk)
        have r1 : RemAt w2.heap.size w6 g c0 cs [nm + 1] := (HRM3.out.below HB35.out).kept (fun k t c _ ht hk => grown_blk HM.out.1 hg6 hk (by rcases ht with rfl | rfl <;> decide))
        have r2 : BegAt w2.heap.size w6 g (nm + 1) s (.slice (some ⟨br, 0, none⟩) (recP b).length cr) cl cn crr cf := (HBG3.out.kept (W' := w5) (fun k t c _ _ hk => hk.below HB35.out hk.lt)).kept (fun k t c _ ht hk => grown_blk HM.out.1 hg6 hk ht)
        have r3 : RemAt w2.heap.size w6 g c02 cs2 [nm] := (HREM5.out.kept (fun k t c _ ht hk => grown_blk HM.out.1 hg6 hk (by rcases ht with rfl | rfl <;> decide))).mono (Nat.le_trans HB3.out.size HB4.out.size)
        have hrec : SlT (fun k => ¬ D k ∧ ¬ T k) w6 (.slice (some ⟨br, 0, none⟩) (recP b).length cr) (recP b) :=
          (HO2.out.slT (T := fun k => w.heap.size ≤ k) (fun k hk _ => hk)).kept (fun k cs hk hbk => ⟨⟨fun e => H.out.new hk (.inl e), fun e => H.out.new hk (.inr e)⟩, hbk.below hb26 hbk.lt⟩)
        have hok : AllOk D T w6 g p s most (xs ++ ys) (begStepsP s (nm + 1) (recP b) ++ [removeP (seg s.data.toList nm)]) := by
          have a1 := rem_ok (p := p) (most := most) hB hsz cs [nm + 1] r1 (by intro n hn; obtain rfl := List.mem_singleton.1 hn; have := HMX.out; omega)
          have a2 := beg_ok (p := p) (most := most) hB r2 hrec (by rw [HRL.out]; omega) HCR.out HMX.out
          have a3 := rem_ok (p := p) (most := most) hB hsz cs2 [nm] r3 (by intro n hn; obtain rfl := List.mem_singleton.1 hn; have := HMX.out; omega)
          have := (a1.app a2).app a3
          rw [← HXS.out, ← HYS.out] at this
          exact this
        have hdo := do_any _ _ hok.steps h6.refl b6 0 c6 (by show S.wr + 5 ≤ 1000000; exact hw) hlr hcell6 (hB b6 hB6) (by rw [List.length_append, HYL.out.1, HYL.out.2]; decide)
        have hr := HRR.out
        rw [hr, List.length_append, HYL.out.2] at hdo
        have HDO := Lib.hid hdo
        have HB06 := Lib.hid hb06
        rw [List.length_append, HYL.out.2]
        clear hdo hok hrec r1 r2 r3 hB hcell6 hlt6 hB6 hn6 h6 hb06 hb26 hst6 ho6 hg6 HM hr
        go_wp2_with fail
        refine HDO.out.mono ?_
        rintro e w7 ⟨rfl, hl7⟩
        have HE := Lib.hid (LT.from HB06.out hl7)
        clear hl7 HDO
        go_wp2
        go_ret
        exact ⟨rfl, HE.out⟩
end
end Go.Proofs.YtibifnknkphanaaGreatDoor

/-
  The chapter's rows, plainly.
-/
namespace Go.Proofs.YtibifnknkphanaaGreatDoor
open Go.RowKit Go.Maps
open DskM WalM
set_option linter.unusedVariables false
set_option linter.unusedSimpArgs false
set_option maxRecDepth 100000

def nmA : ByteArray := ⟨#[97]⟩
def kS0 : Ds := ⟨9999, -1, false, 0⟩
def k1 := openL nmA kS0 []
def k2 := appendL nmA k1.2.1 k1.2.2.1 k1.2.2.2 [120]
def k3 := syncL nmA k2.2.1 k2.2.2.1 k2.2.2.2
def k4 := appendL nmA k3.2.1 k3.2.2.1 k3.2.2.2 [121]
def k5 := openL nmA kS0 (crashP [3] k4.2.2.1)
def k6 := turnL nmA k5.2.1 k5.2.2.1 k5.2.2.2 [115]
def k7 := appendL nmA k6.2.1 k6.2.2.1 k6.2.2.2 [122]
def k8 := syncL nmA k7.2.1 k7.2.2.1 k7.2.2.2
def k9 := openL nmA k8.2.1 k8.2.2.1
theorem e1 : k1.1 = 0 ∧ k1.2.2.2.num = 1 ∧ k1.2.2.2.snap = [] ∧ k1.2.2.2.recs = [] := ⟨by kernel_rfl, by kernel_rfl, by kernel_rfl, by kernel_rfl⟩
theorem e2 : k2.1 = 0 := by kernel_rfl
theorem e3 : k3.1 = 0 := by kernel_rfl
theorem e4 : k4.1 = 0 := by kernel_rfl
theorem e5 : k5.1 = 0 ∧ k5.2.2.2.recs = [[120]] := ⟨by kernel_rfl, by kernel_rfl⟩
theorem e6 : k6.1 = 0 := by kernel_rfl
theorem e7 : k7.1 = 0 := by kernel_rfl
theorem e8 : k8.1 = 0 := by kernel_rfl
theorem e9 : k9.1 = 0 ∧ k9.2.2.2.snap = [115] ∧ k9.2.2.2.recs = [[122]] ∧ k9.2.2.2.num = 2 := ⟨by kernel_rfl, by kernel_rfl, by kernel_rfl, by kernel_rfl⟩
end Go.Proofs.YtibifnknkphanaaGreatDoor

/-
  A log and its disk among blocks of the law's own: what the laws' calls come to.
-/
namespace Go.Proofs.YtibifnknkphanaaGreatDoor
open Go.RowKit Go.Maps
open DskM WalM
set_option linter.unusedVariables false
set_option linter.unusedSimpArgs false
set_option maxRecDepth 20000

theorem bs_le_total {f : Fo} : ∀ {L : List Fo}, f ∈ L → f.bs.length ≤ total L
  | [], h => by cases h
  | y :: L, h => by
    have e : total (y :: L) = y.bs.length + total L := by simp [total]
    rw [e]
    rcases List.mem_cons.1 h with rfl | h
    · omega
    · have := bs_le_total h; omega
theorem mx_small {D : Nat → Prop} {W : World} {p : Nat} {S : Ds} {F : List Fp} (h : Mx D W p S F) : F.length ≤ 64 ∧ ∀ n, (bytesP F n).length ≤ S.cap := by
  obtain ⟨m, L, rfl, hd, _⟩ := h
  refine ⟨by unfold plain; rw [List.length_map]; exact hd.few, fun n => ?_⟩
  unfold bytesP
  split
  · cases hf : findP (plain L) n with
    | none => exact Nat.zero_le _
    | some x =>
      have hm := List.mem_of_find?_eq_some hf
      unfold plain at hm
      obtain ⟨f, hfL, rfl⟩ := List.mem_map.1 hm
      exact Nat.le_trans (bs_le_total hfL) hd.room
  · exact Nat.zero_le _
abbrev Out := Int × Ds × List Fp × Lg
/-- A log and its disk, all of whose blocks are at or behind B. -/
def Lgs (B : Nat) (W : World) (g p : Nat) (s : ByteArray) (most : Int) (r : Out) : Prop :=
  ∃ D T, LW D T W g p s most r.2.1 r.2.2.1 r.2.2.2 ∧ (∀ j, D j → B ≤ j) ∧ (∀ j, T j → B ≤ j)
section
variable {B : Nat} {W W' : World} {g p : Nat} {s : ByteArray} {most : Int} {r r0 : Out}
theorem Lgs.below (h : Lgs B W g p s most r) (hb : Below W.heap.size W W') : Lgs B W' g p s most r := by
  obtain ⟨D, T, h1, h2, h3⟩ := h
  exact ⟨D, T, h1.below hb, h2, h3⟩
theorem Lgs.my (h : Lgs B W g p s most r) : My B W p r.2.1 r.2.2.1 := by
  obtain ⟨D, T, h1, h2, h3⟩ := h
  obtain ⟨m, L, e, hd, hf⟩ := h1.disk
  exact ⟨m, L, e, hd, fun i hi => h2 i (hf i hi)⟩
theorem Lgs.ld (h : Lgs B W g p s most r) : Ld W := by
  obtain ⟨D, T, h1, h2, h3⟩ := h
  exact h1.ld
theorem lgs_of {D T : Nat → Prop} (h2 : ∀ j, D j → B ≤ j) (h3 : ∀ j, T j → B ≤ j) (hB : B ≤ W.heap.size) (h : LT D T W g p s most r.2.1 r.2.2.1 r.2.2.2 W') : Lgs B W' g p s most r ∧ Below B W W' := by
  obtain ⟨D1, T1, k1, k2, k3, k4⟩ := h
  exact ⟨⟨D1, T1, k1, fun j hj => (k2 j hj).elim (h2 j) (fun e => by omega), fun j hj => (k3 j hj).elim (h3 j) (fun e => by omega)⟩, ⟨k4.os, k4.tape, k4.output, k4.size, fun k hk => k4.block k (by omega) (fun e => by
    rcases e with e | e
    · have := h2 k e; omega
    · have := h3 k e; omega)⟩⟩
theorem kn_append (h : Lgs B W g p s most r0) (hB : B ≤ W.heap.size) (hw : r0.2.1.wr + 2 ≤ 1000000) (hlr : r0.2.2.2.recs.length ≤ 1000001) (hsz : s.size ≤ 1000000) (vb : Value) (b : List UInt8) (hb : Sl W vb b) (hr : appendL s r0.2.1 r0.2.2.1 r0.2.2.2 b = r) :
    Calls Tryz.prog 20 #[.pointer (some ⟨g, 0, none⟩), vb] W fun e W' => e = .returned (.int .i64 r.1) ∧ Lgs B W' g p s most r ∧ Below B W W' := by
  obtain ⟨D, T, h1, h2, h3⟩ := h
  refine (wappend_any h1 hw hlr hsz vb b hb hr).mono ?_
  rintro e W' ⟨rfl, hl⟩
  exact ⟨rfl, lgs_of h2 h3 hB hl⟩
theorem kn_sync (h : Lgs B W g p s most r0) (hB : B ≤ W.heap.size) (hw : r0.2.1.wr + 2 ≤ 1000000) (hlr : r0.2.2.2.recs.length ≤ 1000001) (hsz : s.size ≤ 1000000) (hr : syncL s r0.2.1 r0.2.2.1 r0.2.2.2 = r) :
    Calls Tryz.prog 21 #[.pointer (some ⟨g, 0, none⟩)] W fun e W' => e = .returned (.int .i64 r.1) ∧ Lgs B W' g p s most r ∧ Below B W W' := by
  obtain ⟨D, T, h1, h2, h3⟩ := h
  refine (wsync_any h1 hw hlr hsz hr).mono ?_
  rintro e W' ⟨rfl, hl⟩
  exact ⟨rfl, lgs_of h2 h3 hB hl⟩
theorem kn_turn (h : Lgs B W g p s most r0) (hB : B ≤ W.heap.size) (hw : r0.2.1.wr + 5 ≤ 1000000) (hlr : r0.2.2.2.recs.length ≤ 1000001) (hsz : s.size ≤ 1000000) (vb : Value) (b : List UInt8) (hb : Sl W vb b) (hr : turnL s r0.2.1 r0.2.2.1 r0.2.2.2 b = r) :
    Calls Tryz.prog 22 #[.pointer (some ⟨g, 0, none⟩), vb] W fun e W' => e = .returned (.int .i64 r.1) ∧ Lgs B W' g p s most r ∧ Below B W W' := by
  obtain ⟨D, T, h1, h2, h3⟩ := h
  refine (wturn_any h1 hw hlr hsz vb b hb hr).mono ?_
  rintro e W' ⟨rfl, hl⟩
  exact ⟨rfl, lgs_of h2 h3 hB hl⟩
theorem kn_open {S : Ds} {F : List Fp} (h : My B W p S F) (hB : B ≤ W.heap.size) (hld : Ld W) (hfar : Far (fun j => B ≤ j)) (s : ByteArray) (most : Int) (hok : mayOpen s most = true) (hcap : S.cap ≤ 1000000) (hw : S.wr + 100 ≤ 1000000) (hr : openL s S F = r) :
    Calls Tryz.prog 17 #[.pointer (some ⟨p, 0, none⟩), .string s, .int .i64 most] W fun e W' => ∃ g, B ≤ g ∧ e = .returned (.tuple #[.pointer (if r.1 = 0 then some ⟨g, 0, none⟩ else none), .int .i64 r.1]) ∧ Lgs B W' g p s most r ∧ Below B W W' := by
  have hm : Mx (fun j => B ≤ j ∧ j < W.heap.size) W p S F := h.mx (fun i h1 h2 => ⟨h1, h2⟩)
  obtain ⟨hF, hb⟩ := mx_small hm
  refine (wopen_any hm (fun j hj => hj.2) (fun j hj => hfar j hj.1) hld s most hok (fun n => Nat.le_trans (hb _) hcap) hF hw hr).mono ?_
  rintro e W' ⟨g, hg, rfl, D', T', h1, h2, h3, h4⟩
  exact ⟨g, by omega, rfl, ⟨D', T', h1, fun j hj => (h2 j hj).elim (fun e => e.1) (fun e => by omega), fun j hj => by have := h3 j hj; omega⟩, ⟨h4.os, h4.tape, h4.output, h4.size, fun k hk => h4.block k (by omega) (fun e => by omega)⟩⟩
theorem kn_seg (h : Lgs B W g p s most r) : Calls Tryz.prog 40 #[.pointer (some ⟨g, 0, none⟩)] W fun e W' => e = .returned (.int .i64 (r.2.2.2.num : Int)) ∧ W' = W := by
  obtain ⟨D, T, h1, h2, h3⟩ := h
  obtain ⟨vs, vr, hb, _⟩ := h1.log
  exact wseg_any hb
theorem kn_size (h : Lgs B W g p s most r) : Calls Tryz.prog 27 #[.pointer (some ⟨g, 0, none⟩)] W fun e W' => e = .returned (.int .i64 r.2.2.2.size) ∧ W' = W := by
  obtain ⟨D, T, h1, h2, h3⟩ := h
  obtain ⟨vs, vr, hb, _⟩ := h1.log
  exact wsize_any hb
theorem kn_synced (h : Lgs B W g p s most r) : Calls Tryz.prog 41 #[.pointer (some ⟨g, 0, none⟩)] W fun e W' => e = .returned (.int .i64 (r.2.2.2.synced : Int)) ∧ W' = W := by
  obtain ⟨D, T, h1, h2, h3⟩ := h
  obtain ⟨vs, vr, hb, _⟩ := h1.log
  exact wsynced_any hb
theorem kn_len (h : Lgs B W g p s most r) : Calls Tryz.prog 39 #[.pointer (some ⟨g, 0, none⟩)] W fun e W' => e = .returned (.int .i64 (r.2.2.2.recs.length : Int)) ∧ W' = W := by
  obtain ⟨D, T, h1, h2, h3⟩ := h
  obtain ⟨vs, vr, hb, _, _, hr⟩ := h1.log
  obtain ⟨A, c, vv, rfl, _⟩ := hr
  exact wlen_any hb
theorem kn_big (h : Lgs B W g p s most r) : Calls Tryz.prog 28 #[.pointer (some ⟨g, 0, none⟩)] W fun e W' => e = .returned (.bool (decide (most < r.2.2.2.size))) ∧ Below W.heap.size W W' := by
  obtain ⟨D, T, h1, h2, h3⟩ := h
  obtain ⟨vs, vr, hb, _⟩ := h1.log
  exact wbig_any hb
theorem kn_snap (h : Lgs B W g p s most r) (hl : r.2.2.2.snap.length ≤ 1000000000) : Calls Tryz.prog 25 #[.pointer (some ⟨g, 0, none⟩)] W fun e W' => ∃ v', e = .returned v' ∧ Own W' W.heap.size 5 v' r.2.2.2.snap ∧ Below W.heap.size W W' := by
  obtain ⟨D, T, h1, h2, h3⟩ := h
  obtain ⟨vs, vr, hb, _, hs, _⟩ := h1.log
  exact wsnap_any hb _ hs.sl hl
theorem kn_once (h : Lgs B W g p s most r) (hl : r.2.2.2.recs.length ≤ 2000001) (hll : ∀ l ∈ r.2.2.2.recs, l.length ≤ 1000000000) (wls : List (List UInt8)) (vw : Value) (hw : Sls W vw wls) :
    Calls Tryz.prog 43 #[.pointer (some ⟨g, 0, none⟩), vw, .int .i64 0] W fun e W' => e = .returned (.bool (decide (r.2.2.2.recs = wls))) ∧ Below W.heap.size W W' := by
  obtain ⟨D, T, h1, h2, h3⟩ := h
  exact wonce_any T _ _ W _ _ _ h1.log.recsOk h1.tlt hl hll hw
end
end Go.Proofs.YtibifnknkphanaaGreatDoor

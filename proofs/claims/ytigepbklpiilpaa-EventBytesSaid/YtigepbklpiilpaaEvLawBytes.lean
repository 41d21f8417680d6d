/-
  EventBytes' law.
-/
import Derived.Test.YtigepbklpiilpaaEvSame
import Derived.Test.YtigepbklpiilpaaEvLawOrder
import Derived.Test.YtigepbklpiilpaaHeldA
import Derived.Deep.Cut
namespace Go.Proofs.Ytigepbklpiilpaa
open Go.RowKit
open CtxM
set_option linter.unusedVariables false
set_option linter.unusedSimpArgs false
set_option maxRecDepth 20000

theorem num_any (n : Int) (w : World) : Calls Try.prog 13 #[.int .i64 n] w fun e w' => e = .returned (.int .i64 n) ∧ w = w' := by
  go_enter Try.func13, Try.ntmps13
  go_wp2
  go_ret
  exact ⟨rfl, rfl⟩
/-- A byte of a row of the call's own turned. -/
theorem Own.put_ {w : World} {base g n c : Nat} {e : TypeId} {l : List UInt8} (h : Own w base e (.slice (some ⟨g, 0, none⟩) n c) l) (k : Nat) (b : UInt8) : Own (w.setCell ⟨g, k, none⟩ (bv b)) base e (.slice (some ⟨g, 0, none⟩) n c) (l.set k b) := by
  obtain rfl : n = l.length := h.sl.len
  have := (World.ownsRow.stored h k (bv b)).1
  unfold Own
  rw [List.length_set, List.map_set]
  exact this
theorem Own.byteAt_ {w : World} {base n c : Nat} {e : TypeId} {A : Option Addr} {l : List UInt8} (h : Own w base e (.slice A n c) l) (k : Nat) (hk : k < l.length) : ∃ g, A = some ⟨g, 0, none⟩ ∧ base ≤ g ∧ w.cell? ⟨g, k, none⟩ = some (.int .u8 (l[k].toNat : Int)) ∧ w.frozen? ⟨g, k, none⟩ = false := by
  have hn : n = l.length := h.sl.len
  rcases h.2 with ⟨e1, h0⟩ | ⟨g, cap, cur, e1, hg, hh, hnc, hm, hs, ht⟩
  · omega
  · injection e1 with a1 a2 a3
    have h' := h
    subst a1; subst hn
    refine ⟨g, rfl, hg, ?_, World.ownsRow.frozenAt h' k⟩
    rw [World.ownsRow.cellAt h' k (by omega), List.getElem?_map, List.getElem?_eq_getElem hk]
    rfl
/-- Both readings answer the same. -/
theorem agree {L : List UInt8} {y z : Ev} {n : Int} {ok : Bool} (h : (evOf L = some (plain y) ∧ n = 0) ∨ (evOf L = none ∧ n = 4 ∧ y = knZ)) (k : (evOf L = some (plain z) ∧ ok = true) ∨ (evOf L = none ∧ ok = false ∧ z = knZ)) :
    (∃ pz tz, z = ⟨y.id, y.topic, pz, y.P, y.V, tz, y.T⟩) ∧ ((n = 0 ∧ ok = true) ∨ (n = 4 ∧ ok = false)) ∧ y.T.length ≤ 100000 ∧ y.P.length ≤ 100000 := by
  rcases h with ⟨h, rfl⟩ | ⟨h, rfl, rfl⟩ <;> rcases k with ⟨k, rfl⟩ | ⟨k, rfl, rfl⟩
  · rw [h] at k
    injection k with k
    refine ⟨⟨z.pl, z.to, ?_⟩, .inl ⟨rfl, rfl⟩, ?_⟩
    · obtain ⟨zi, zt, zp, zP, zV, zo, zT⟩ := z
      simp only [plain, Prod.mk.injEq] at k
      obtain ⟨rfl, rfl, rfl, rfl, rfl⟩ := k
      rfl
    · unfold evOf at h
      cases ho : evO L with
      | none => rw [ho] at h; cases h
      | some p =>
        rw [ho] at h
        change (if plB p = true then some p else none) = _ at h
        by_cases hp : plB p = true
        · rw [if_pos hp] at h
          injection h with h
          rw [h, ← evB_plain] at hp
          have h1 := (evB_iff.1 hp).2.2.2.1
          have h2 := (evB_iff.1 hp).2.2.1
          exact ⟨by omega, by omega⟩
        · rw [if_neg hp] at h; cases h
  · rw [h] at k; cases k
  · rw [h] at k; cases k
  · exact ⟨⟨_, _, rfl⟩, .inr ⟨rfl, rfl⟩, by show ([] : List De).length ≤ _; simp, by show ([] : List UInt8).length ≤ _; simp⟩
/-- Where the law stands. -/
structure Bg (w W : World) (x : Ev) (v : Value) (l : List UInt8) : Prop where
  e : Blk W w.heap.size 30 (evc x)
  ok : EvOk W x
  s : Sl W v l
  b : Below w.heap.size w W
theorem Bg.below {w W W' : World} {x : Ev} {v : Value} {l : List UInt8} (h : Bg w W x v l) (hb : Below W.heap.size W W') : Bg w W' x v l :=
  ⟨h.e.below hb h.e.lt, h.ok.below hb, h.s.below hb, h.b.trans (hb.mono h.b.size)⟩

set_option maxHeartbeats 16000000 in
theorem lawBytes_any (x : Ev) (v : Value) (l : List UInt8) (w : World) (hx : EvOk w x) (hs : Sl w v l) : Calls Try.prog 3 #[.agg (evc x), v] w fun e w' => e = .returned (.bool true) ∧ Below w.heap.size w w' := by
  have hfo : Try.prog.follows .mixedOrders = true := by kernel_rfl
  have hV := hx.len
  have J1 : Bg w (w.alloc (.cells (evc x) 30)) x v l := ⟨Blk.new w _ _, hx.below ((Below.refl _ _).alloc (Nat.le_refl _) _), hs.below ((Below.refl _ _).alloc (Nat.le_refl _) _), (Below.refl _ _).alloc (Nat.le_refl _) _⟩
  obtain ⟨A, c, rfl⟩ : ∃ A c, v = .slice A l.length c := hs.elim fun A h => h.elim fun c h => ⟨A, c, h.1⟩
  clear hx hs
  go_enter Try.func3, Try.ntmps3
  go_upto_region 1 with fail
  generalize w.alloc (.cells (evc x) 30) = w1 at J1 ⊢
  go_wp2_with (first | (refine wpList_load_mid_g (by rfl) 30 _ rfl (w.heap.size) 0 rfl (evc x) _ (ev_all J1.e) Try.underlying30 rfl (evc_info hV) ?_; try simp only [Act.put, List.setIfInBounds_toArray, List.set_cons_zero, List.set_cons_succ]))
  refine (much_any x _ J1.ok).mono ?_
  rintro e w2 ⟨b, rfl, j2, _⟩
  have J2 := J1.below j2.below
  clear J1 j2
  cases b
  · by_cases hl : l.length ≤ 70000
    · have hli : ¬ (70000 : Int) < (l.length : Int) := by omega
      have hld : decide ((70000 : Int) < (l.length : Int)) = false := decide_eq_false hli
      go_upto_region 3 with fail
      cases hE : evB x
      · go_upto_region 4 with (first | (refine wpList_load_mid_g (by rfl) 30 _ rfl (w.heap.size) 0 rfl (evc x) _ (ev_all J2.e) Try.underlying30 rfl (evc_info hV) ?_; try simp only [Act.put, List.setIfInBounds_toArray, List.set_cons_zero, List.set_cons_succ]) | (go_at_call 9; refine (ebytes_any x _ J2.ok).mono ?_; rintro e w3 ⟨hb3, hres⟩; obtain ⟨_, rfl⟩ := hres.resolve_left (fun h => by rw [hE] at h; cases h.1); clear hres; have J3 := J2.below hb3))
        clear J2 hb3
        have cm := fun n os => emay_any x (Go.Sort.grow (w3.drewN n) os) (J3.ok.below (Grw.below ⟨n, os, rfl⟩))
        have cr := fun n os => rmay_any x (Go.Sort.grow (w3.drewN n) os) (J3.ok.below (Grw.below ⟨n, os, rfl⟩))
        rw [hE] at cm cr
        refine wp_region_quiet_grown (by assumption) (by kernel_rfl) ?_
        repeat (first | go_big_quiet_skip | (refine q_load (by rfl) 30 _ rfl w.heap.size 0 rfl (evc x) _ J3.e.lt (ev_all J3.e) Try.underlying30 rfl (evc_info hV) ?_; try simp only [Act.put, List.setIfInBounds_toArray, List.set_cons_zero, List.set_cons_succ]) | go_big_quiet_step (first | (go_at_call 10; refine Calls.grown_of (cm _ _)) | (go_at_call 11; refine Calls.grown_of (cr _ _))))
        refine wpQuiet_nil ?_
        rintro _ ⟨⟨nq, osq⟩, rfl⟩
        have hg4 : Grw w3 (Go.Sort.grow (w3.drewN nq) osq) := ⟨nq, osq, rfl⟩
        have J4 := J3.below hg4.below
        go_upto_region 6 with fail
        generalize Go.Sort.grow (w3.drewN nq) osq = w4 at J4 ⊢
        clear J3 cm cr hg4
        go_upto_region 9 with (first | (refine wpList_load_mid_g (by rfl) 30 _ rfl (w.heap.size) 0 rfl (evc x) _ (ev_all J4.e) Try.underlying30 rfl (evc_info hV) ?_; try simp only [Act.put, List.setIfInBounds_toArray, List.set_cons_zero, List.set_cons_succ]) | (go_at_call 11; refine (rmay_any x _ J4.ok).mono ?_; rintro e w5 ⟨rfl, hg5⟩; rw [hE]; have J5 := J4.below hg5.below))
        clear J4 hg5
        go_upto_region 11 with (first | (go_at_call 13; refine (num_any _ _).mono ?_; rintro e wn ⟨rfl, rfl⟩))
        have hc1 := conv_any J5.s
        go_upto_region 12 with fail
        clear hc1
        have hB0 := J5.b
        have hst := J5.s
        go_upto_region 13 with (first | (go_at_call 14; refine (eof_any _ l _ hst (by omega)).mono ?_; rintro e w7 ⟨y, n, rfl, hb7, hyo, hown, hres⟩; have hyV := hyo.len; obtain ⟨Ay, cy, hypl⟩ : ∃ A c, y.pl = .slice A y.P.length c := hyo.pl.elim fun A h => h.elim fun c h => ⟨A, c, h.1⟩; obtain ⟨At, ct, hyto⟩ := hyo.to.shape; have hy1 := evc_one y (by rw [hypl]; rfl) (by rw [hyto]; rfl)) | (refine wpList_store_mid rfl 30 _ _ rfl w7.heap.size 0 (evc y) rfl rfl (ev_thereAll (Blk.new w7 30 (evc knZ)) rfl hyV) (evc_info hyV) hy1 ?_; try simp only [Act.put, List.setIfInBounds_toArray, List.set_cons_zero, List.set_cons_succ]))
        change Code.wp _ _ _ _ ((w7.alloc (.cells (evc knZ) 30)).setCells w7.heap.size 0 (evc y).toList)
        have hY : Blk ((w7.alloc (.cells (evc knZ) 30)).setCells w7.heap.size 0 (evc y).toList) w7.heap.size 30 (evc y) := (Blk.new w7 30 (evc knZ)).setRow (by rw [evc_size hyV]; rfl)
        have hb8 : Below w7.heap.size w7 ((w7.alloc (.cells (evc knZ) 30)).setCells w7.heap.size 0 (evc y).toList) := Below.only ((Below.refl _ _).alloc (Nat.le_refl _) _) (grown_setCells _ _ _ _) (Nat.le_refl _) (by simp)
        generalize (w7.alloc (.cells (evc knZ) 30)).setCells w7.heap.size 0 (evc y).toList = w8 at hY hb8 ⊢
        have hyo8 := hyo.below hb8
        have hown8 := hown.below hb8 (Nat.le_refl _)
        have hb08 := hb7.trans (hb8.mono hb7.size)
        have hyb : w5.heap.size ≤ w7.heap.size := hb7.size
        obtain ⟨yb, hybe⟩ : ∃ g, g = w7.heap.size := ⟨_, rfl⟩
        rw [← hybe] at hY hyb ⊢
        clear hybe hyo hown hb7 hb8 hy1 J5
        obtain ⟨cB, w9, hcv, hb9, _, hcap, hmem, hsl9⟩ := conv_bytes ⟨l.toArray⟩ w8
        have esz : (⟨l.toArray⟩ : ByteArray).size = l.length := by show l.toArray.size = _; simp
        have edl : (⟨l.toArray⟩ : ByteArray).data.toList = l := rfl
        rw [esz] at hcv hcap hsl9
        rw [edl] at hmem hsl9
        have hrof := rof_any w8.heap.size cB l w9 hmem hcap (by omega)
        go_upto_region 14 with (first | (go_at_call 15; refine hrof.mono ?_; rintro e w10 ⟨z, ok, rfl, hb10, hzo, hres2⟩; have hzV := hzo.len; obtain ⟨Az, cz, hzpl⟩ : ∃ A c, z.pl = .slice A z.P.length c := hzo.pl.elim fun A h => h.elim fun c h => ⟨A, c, h.1⟩; obtain ⟨Au, cu, hzto⟩ := hzo.to.shape; have hz1 := evc_one z (by rw [hzpl]; rfl) (by rw [hzto]; rfl)) | (refine wpList_store_mid rfl 30 _ _ rfl w10.heap.size 0 (evc z) rfl rfl (ev_thereAll (Blk.new w10 30 (evc knZ)) rfl hzV) (evc_info hzV) hz1 ?_; try simp only [Act.put, List.setIfInBounds_toArray, List.set_cons_zero, List.set_cons_succ]))
        change Code.wp _ _ _ _ ((w10.alloc (.cells (evc knZ) 30)).setCells w10.heap.size 0 (evc z).toList)
        have hZ : Blk ((w10.alloc (.cells (evc knZ) 30)).setCells w10.heap.size 0 (evc z).toList) w10.heap.size 30 (evc z) := (Blk.new w10 30 (evc knZ)).setRow (by rw [evc_size hzV]; rfl)
        have hb11 : Below w10.heap.size w10 ((w10.alloc (.cells (evc knZ) 30)).setCells w10.heap.size 0 (evc z).toList) := Below.only ((Below.refl _ _).alloc (Nat.le_refl _) _) (grown_setCells _ _ _ _) (Nat.le_refl _) (by simp)
        generalize (w10.alloc (.cells (evc knZ) 30)).setCells w10.heap.size 0 (evc z).toList = w11 at hZ hb11 ⊢
        have hzo11 := hzo.below hb11
        have hb811 := (hb9.trans (hb10.mono hb9.size)).trans (hb11.mono (Nat.le_trans hb9.size hb10.size))
        have hyo11 := hyo8.below hb811
        have hown11 := hown8.below hb811 (Nat.le_refl _)
        have hY11 := hY.below hb811 hY.lt
        have hb011 := hb08.trans (hb811.mono hb08.size)
        obtain ⟨zb, hzbe⟩ : ∃ g, g = w10.heap.size := ⟨_, rfl⟩
        rw [← hzbe] at hZ ⊢
        clear hzbe hzo hb9 hb10 hb11 hz1 hyo8 hown8 hY hb08 hcv hmem hsl9 hrof hb811
        obtain ⟨⟨pz, tz, rfl⟩, hnk, hT, hPm⟩ := agree hres hres2
        have HPM := Lib.hid hPm
        clear hPm
        clear hres hres2
        rcases hnk with ⟨rfl, rfl⟩ | ⟨rfl, rfl⟩
        · go_upto_region 16 with (first | (refine wpList_load_mid_g (by rfl) 30 _ rfl (yb) 0 rfl (evc y) _ (ev_all hY11) Try.underlying30 rfl (evc_info hyV) ?_; try simp only [Act.put, List.setIfInBounds_toArray, List.set_cons_zero, List.set_cons_succ]) | (refine wpList_load_mid_g (by rfl) 30 _ rfl (zb) 0 rfl (evc ⟨y.id, y.topic, pz, y.P, y.V, tz, y.T⟩) _ (ev_all hZ) Try.underlying30 rfl (evc_info hzV) ?_; try simp only [Act.put, List.setIfInBounds_toArray, List.set_cons_zero, List.set_cons_succ]) | (go_at_call 16; refine (rsame_any y pz tz _ hyo11 hzo11 hT).mono ?_; rintro e w12 ⟨rfl, hg12⟩; have hown12 := hown11.below hg12.below (Nat.le_refl _); have hY12 := hY11.below hg12.below hY11.lt; have hb012 := hb011.trans (hg12.below.mono hb011.size)) | (go_at_call 13; refine (num_any _ _).mono ?_; rintro e wn ⟨rfl, rfl⟩))
          clear hZ hyo11 hzo11 hown11 hY11 hb011 hg12 hzpl hzto
          have HST := Lib.hid hst
          have HB0 := Lib.hid hB0
          have HO := Lib.hid hown12
          have HY := Lib.hid hY12
          have HB12 := Lib.hid hb012
          clear hst hB0 hown12 hY12 hb012
          go_wp2
          go_loopw [12] (fun q wr => ∃ (i : Nat) (P : List UInt8), q = .int .i64 (i : Int) ∧ i ≤ y.P.length ∧ P.length = y.P.length ∧ Own wr w5.heap.size 5 y.pl P ∧ Blk wr yb 30 (evc y) ∧ Below w5.heap.size w5 wr) (fun q _ => y.P.length - (intOf q).toNat)
          case atStart => exact ⟨0, y.P, rfl, Nat.zero_le _, rfl, HO.out, HY.out, HB12.out⟩
          case round =>
            clear HO HY HB12
            obtain ⟨i, P, rfl, hi, hP, ho, hY, hb⟩ := hrel
            have hc3 : wr.cell? ⟨yb, 3, none⟩ = some (.slice Ay y.P.length cy) := by rw [ev_3 hY, hypl]
            rw [hypl] at ho
            by_cases hlt : i < y.P.length
            · obtain ⟨g, rfl, hg, hcell, hfr⟩ := ho.byteAt_ i (by omega)
              have hli : (i : Int) < (y.P.length : Int) := by omega
              have hlb : (0 : Int) ≤ (i : Int) := by omega
              have hput := ho.put_ i 9
              have hgr := grown_setCell wr g i (.int .u8 9)
              have hYn := hY.grown hgr (own_ne ho hY (by decide))
              have hbn := Below.only hb hgr hg hb.size
              have hPn : (P.set i 9).length = y.P.length := by simpa using hP
              have hpmax := HPM.out
              clear hY hb ho
              go_wp2
              exact ⟨⟨i + 1, P.set i 9, by go_num, by omega, hPn, by rw [hypl]; exact hput, hYn, hbn⟩, by simp [intOf]; omega⟩
            · obtain rfl : i = y.P.length := by omega
              have hc1 := conv_any (HST.out.below hb)
              go_wp2_with (first | (go_at_call 8; refine (known_any _).mono ?_; rintro e wk ⟨rfl, hgk⟩))
              go_ret
              exact ⟨rfl, (HB0.out.trans (hb.mono HB0.out.size)).trans (hgk.below.mono (Nat.le_trans HB0.out.size hb.size))⟩
        · go_upto_region 16 with (first | (refine wpList_load_mid_g (by rfl) 30 _ rfl (yb) 0 rfl (evc y) _ (ev_all hY11) Try.underlying30 rfl (evc_info hyV) ?_; try simp only [Act.put, List.setIfInBounds_toArray, List.set_cons_zero, List.set_cons_succ]) | (refine wpList_load_mid_g (by rfl) 30 _ rfl (zb) 0 rfl (evc ⟨y.id, y.topic, pz, y.P, y.V, tz, y.T⟩) _ (ev_all hZ) Try.underlying30 rfl (evc_info hzV) ?_; try simp only [Act.put, List.setIfInBounds_toArray, List.set_cons_zero, List.set_cons_succ]) | (go_at_call 16; refine (rsame_any y pz tz _ hyo11 hzo11 hT).mono ?_; rintro e w12 ⟨rfl, hg12⟩; have hown12 := hown11.below hg12.below (Nat.le_refl _); have hY12 := hY11.below hg12.below hY11.lt; have hb012 := hb011.trans (hg12.below.mono hb011.size)) | (go_at_call 13; refine (num_any _ _).mono ?_; rintro e wn ⟨rfl, rfl⟩))
          clear hZ hyo11 hzo11 hown11 hY11 hb011 hg12 hzpl hzto
          have HST := Lib.hid hst
          have HB0 := Lib.hid hB0
          have HO := Lib.hid hown12
          have HY := Lib.hid hY12
          have HB12 := Lib.hid hb012
          clear hst hB0 hown12 hY12 hb012
          go_wp2
          go_loopw [12] (fun q wr => ∃ (i : Nat) (P : List UInt8), q = .int .i64 (i : Int) ∧ i ≤ y.P.length ∧ P.length = y.P.length ∧ Own wr w5.heap.size 5 y.pl P ∧ Blk wr yb 30 (evc y) ∧ Below w5.heap.size w5 wr) (fun q _ => y.P.length - (intOf q).toNat)
          case atStart => exact ⟨0, y.P, rfl, Nat.zero_le _, rfl, HO.out, HY.out, HB12.out⟩
          case round =>
            clear HO HY HB12
            obtain ⟨i, P, rfl, hi, hP, ho, hY, hb⟩ := hrel
            have hc3 : wr.cell? ⟨yb, 3, none⟩ = some (.slice Ay y.P.length cy) := by rw [ev_3 hY, hypl]
            rw [hypl] at ho
            by_cases hlt : i < y.P.length
            · obtain ⟨g, rfl, hg, hcell, hfr⟩ := ho.byteAt_ i (by omega)
              have hli : (i : Int) < (y.P.length : Int) := by omega
              have hlb : (0 : Int) ≤ (i : Int) := by omega
              have hput := ho.put_ i 9
              have hgr := grown_setCell wr g i (.int .u8 9)
              have hYn := hY.grown hgr (own_ne ho hY (by decide))
              have hbn := Below.only hb hgr hg hb.size
              have hPn : (P.set i 9).length = y.P.length := by simpa using hP
              have hpmax := HPM.out
              clear hY hb ho
              go_wp2
              exact ⟨⟨i + 1, P.set i 9, by go_num, by omega, hPn, by rw [hypl]; exact hput, hYn, hbn⟩, by simp [intOf]; omega⟩
            · obtain rfl : i = y.P.length := by omega
              have hc1 := conv_any (HST.out.below hb)
              go_wp2_with (first | (go_at_call 8; refine (known_any _).mono ?_; rintro e wk ⟨rfl, hgk⟩))
              go_ret
              exact ⟨rfl, (HB0.out.trans (hb.mono HB0.out.size)).trans (hgk.below.mono (Nat.le_trans HB0.out.size hb.size))⟩
      · go_upto_region 4 with (first | (refine wpList_load_mid_g (by rfl) 30 _ rfl (w.heap.size) 0 rfl (evc x) _ (ev_all J2.e) Try.underlying30 rfl (evc_info hV) ?_; try simp only [Act.put, List.setIfInBounds_toArray, List.set_cons_zero, List.set_cons_succ]) | (go_at_call 9; refine (ebytes_any x _ J2.ok).mono ?_; rintro e w3 ⟨hb3, hres⟩; obtain ⟨_, vb, rfl, hsb⟩ := hres.resolve_right (fun h => by rw [hE] at h; cases h.1); obtain ⟨Ab, cb, rfl⟩ : ∃ A c, vb = .slice A (evBytes x).length c := hsb.elim fun A h => h.elim fun c h => ⟨A, c, h.1⟩; clear hres; have J3 := J2.below hb3))
        clear J2 hb3
        have cm := fun n os => emay_any x (Go.Sort.grow (w3.drewN n) os) (J3.ok.below (Grw.below ⟨n, os, rfl⟩))
        have cr := fun n os => rmay_any x (Go.Sort.grow (w3.drewN n) os) (J3.ok.below (Grw.below ⟨n, os, rfl⟩))
        rw [hE] at cm cr
        refine wp_region_quiet_grown (by assumption) (by kernel_rfl) ?_
        repeat (first | go_big_quiet_skip | (refine q_load (by rfl) 30 _ rfl w.heap.size 0 rfl (evc x) _ J3.e.lt (ev_all J3.e) Try.underlying30 rfl (evc_info hV) ?_; try simp only [Act.put, List.setIfInBounds_toArray, List.set_cons_zero, List.set_cons_succ]) | go_big_quiet_step (first | (go_at_call 10; refine Calls.grown_of (cm _ _)) | (go_at_call 11; refine Calls.grown_of (cr _ _))))
        refine wpQuiet_nil ?_
        rintro _ ⟨⟨nq, osq⟩, rfl⟩
        have hg4 : Grw w3 (Go.Sort.grow (w3.drewN nq) osq) := ⟨nq, osq, rfl⟩
        have J4 := J3.below hg4.below
        go_upto_region 6 with fail
        have hsb4 := hsb.below hg4.below
        generalize Go.Sort.grow (w3.drewN nq) osq = w4 at J4 hsb4 ⊢
        clear J3 cm cr hg4 hsb
        go_upto_region 7 with (first | (refine wpList_load_mid_g (by rfl) 30 _ rfl (w.heap.size) 0 rfl (evc x) _ (ev_all J4.e) Try.underlying30 rfl (evc_info hV) ?_; try simp only [Act.put, List.setIfInBounds_toArray, List.set_cons_zero, List.set_cons_succ]) | (go_at_call 11; refine (rmay_any x _ J4.ok).mono ?_; rintro e w5 ⟨rfl, hg5⟩; rw [hE]; have J5 := J4.below hg5.below))
        have hsb5 := hsb4.below hg5.below
        clear J4 hg5 hsb4
        refine wp_region_held_drew (S := fun X => Below w5.drew.heap.size w5.drew X) hfo (Below.refl _ _) (fun hS0 => ?_)
        have JD : Bg w w5.drew x (.slice A l.length c) l := J5.below (Below.refl _ _).drew
        have hsD : Sl w5.drew (.slice Ab (evBytes x).length cb) (evBytes x) := hsb5.below (Below.refl _ _).drew
        clear J5 hsb5
        generalize w5.drew = Z0 at hS0 JD hsD ⊢
        refine' wpAnyH_take (i := 0) (oi := ⟨some 33, _, _, _, _, _⟩) (v := _) rfl (by kernel_rfl) (by kernel_rfl) (by kernel_rfl) (fun _ _ _ h => h) (Or.inl ⟨by rfl, ?y0h⟩) hS0 ?r0h
        case y0h => (intro w' hSw; go_simp; try rfl)
        try simp only [Act.put, List.setIfInBounds_toArray, List.set_cons_zero, List.set_cons_succ]
        refine' wpAnyH_take (i := 1) (oi := ⟨some 34, _, _, _, _, _⟩) (v := _) rfl (by kernel_rfl) (by kernel_rfl) (by kernel_rfl) (fun _ _ _ h => h) (Or.inl ⟨by rfl, ?y1h⟩) hS0 ?r1h
        case y1h => (intro w' hSw; have q0 := conv_any (hsD.below hSw); go_simp; try rfl)
        try simp only [Act.put, List.setIfInBounds_toArray, List.set_cons_zero, List.set_cons_succ]
        refine' wpAnyH_take (i := 2) (oi := ⟨some 35, _, _, _, _, _⟩) (v := .agg (evc x)) rfl (by kernel_rfl) (by kernel_rfl) (by kernel_rfl) (fun _ _ _ h => h) (yieldsIf_load_mid (by rfl) 30 _ rfl w.heap.size 0 rfl (evc x).toList _ (fun w' hSw => ev_all (JD.e.below hSw JD.e.lt)) Try.underlying30 rfl (by rw [evc_info hV]; simp)) hS0 ?r2h
        try simp only [Act.put, List.setIfInBounds_toArray, List.set_cons_zero, List.set_cons_succ]
        refine held_one (i := 3) (by kernel_rfl) rfl (fun Kh hK => ?_)
        go_simp
        refine (rbytes_any x Z0 JD.ok hE).mono ?_
        rintro e Z1 ⟨v2, rfl, hs2, hb2⟩
        obtain ⟨A2, n2, c2, rfl⟩ := hs2.shape
        have hcv2 := conv_any hs2
        have hS1 := hS0.trans (hb2.mono hS0.size)
        have J6 := JD.below hb2
        refine hK.out _ _ hS1 (fun _ => ?_)
        clear hK Kh
        try simp only [Act.put, List.setIfInBounds_toArray, List.set_cons_zero, List.set_cons_succ]
        refine held_one (i := 4) (by kernel_rfl) rfl (fun Kh hK => ?_)
        go_simp
        refine hK.out _ _ hS1 (fun _ => ?_)
        clear hK Kh
        try simp only [Act.put, List.setIfInBounds_toArray, List.set_cons_zero, List.set_cons_succ]
        refine' wpAnyH_take (i := 5) (oi := ⟨some 38, _, _, _, _, _⟩) (v := .bool false) rfl (by kernel_rfl) (by kernel_rfl) (by kernel_rfl) (fun _ _ _ h => h) (Or.inl ⟨by rfl, ?y5h⟩) hS1 ?r5h
        case y5h => (intro w' hSw; go_simp; try rfl)
        try simp only [Act.put, List.setIfInBounds_toArray, List.set_cons_zero, List.set_cons_succ]
        refine' wpAnyH_take (i := 6) (oi := ⟨some 39, _, _, _, _, _⟩) (v := _) rfl (by kernel_rfl) (by kernel_rfl) (by kernel_rfl) (fun _ _ _ h => h) (Or.inl ⟨by rfl, ?y6h⟩) hS1 ?r6h
        case y6h => (intro w' hSw; go_simp; try rfl)
        try simp only [Act.put, List.setIfInBounds_toArray, List.set_cons_zero, List.set_cons_succ]
        refine' wpAnyH_take (i := 7) (oi := ⟨some 40, _, _, _, _, _⟩) (v := _) rfl (by kernel_rfl) (by kernel_rfl) (by kernel_rfl) (fun _ _ _ h => h) (Or.inl ⟨by rfl, ?y7h⟩) hS1 ?r7h
        case y7h => (intro w' hSw; go_simp; try rfl)
        try simp only [Act.put, List.setIfInBounds_toArray, List.set_cons_zero, List.set_cons_succ]
        refine held_one (i := 8) (by kernel_rfl) rfl (fun Kh hK => ?_)
        go_simp
        refine (num_any _ _).mono ?_
        rintro e wn ⟨rfl, rfl⟩
        refine hK.out _ _ hS1 (fun _ => ?_)
        clear hK Kh
        try simp only [Act.put, List.setIfInBounds_toArray, List.set_cons_zero, List.set_cons_succ]
        refine' wpAnyH_take (i := 9) (oi := ⟨some 42, _, _, _, _, _⟩) (v := .bool false) rfl (by kernel_rfl) (by kernel_rfl) (by kernel_rfl) (fun _ _ _ h => h) (Or.inl ⟨by rfl, ?y9h⟩) hS1 ?r9h
        case y9h => (intro w' hSw; go_simp; try rfl)
        try simp only [Act.put, List.setIfInBounds_toArray, List.set_cons_zero, List.set_cons_succ]
        refine' wpAnyH_take (i := 10) (oi := ⟨some 43, _, _, _, _, _⟩) (v := _) rfl (by kernel_rfl) (by kernel_rfl) (by kernel_rfl) (fun _ _ _ h => h) (Or.inl ⟨by rfl, ?y10h⟩) hS1 ?r10h
        case y10h => (intro w' hSw; go_simp; try rfl)
        try simp only [Act.put, List.setIfInBounds_toArray, List.set_cons_zero, List.set_cons_succ]
        refine wpAnyH_done (by kernel_rfl) ?_ _
        go_upto_region 11 with fail
        clear hb2 hcv2 hS1 hS0 JD hsD hs2 hE
        have hc1 := conv_any J6.s
        go_upto_region 12 with fail
        clear hc1
        have hB0 := J6.b
        have hst := J6.s
        go_upto_region 13 with (first | (go_at_call 14; refine (eof_any _ l _ hst (by omega)).mono ?_; rintro e w7 ⟨y, n, rfl, hb7, hyo, hown, hres⟩; have hyV := hyo.len; obtain ⟨Ay, cy, hypl⟩ : ∃ A c, y.pl = .slice A y.P.length c := hyo.pl.elim fun A h => h.elim fun c h => ⟨A, c, h.1⟩; obtain ⟨At, ct, hyto⟩ := hyo.to.shape; have hy1 := evc_one y (by rw [hypl]; rfl) (by rw [hyto]; rfl)) | (refine wpList_store_mid rfl 30 _ _ rfl w7.heap.size 0 (evc y) rfl rfl (ev_thereAll (Blk.new w7 30 (evc knZ)) rfl hyV) (evc_info hyV) hy1 ?_; try simp only [Act.put, List.setIfInBounds_toArray, List.set_cons_zero, List.set_cons_succ]))
        change Code.wp _ _ _ _ ((w7.alloc (.cells (evc knZ) 30)).setCells w7.heap.size 0 (evc y).toList)
        have hY : Blk ((w7.alloc (.cells (evc knZ) 30)).setCells w7.heap.size 0 (evc y).toList) w7.heap.size 30 (evc y) := (Blk.new w7 30 (evc knZ)).setRow (by rw [evc_size hyV]; rfl)
        have hb8 : Below w7.heap.size w7 ((w7.alloc (.cells (evc knZ) 30)).setCells w7.heap.size 0 (evc y).toList) := Below.only ((Below.refl _ _).alloc (Nat.le_refl _) _) (grown_setCells _ _ _ _) (Nat.le_refl _) (by simp)
        generalize (w7.alloc (.cells (evc knZ) 30)).setCells w7.heap.size 0 (evc y).toList = w8 at hY hb8 ⊢
        have hyo8 := hyo.below hb8
        have hown8 := hown.below hb8 (Nat.le_refl _)
        have hb08 := hb7.trans (hb8.mono hb7.size)
        have hyb : Z1.heap.size ≤ w7.heap.size := hb7.size
        obtain ⟨yb, hybe⟩ : ∃ g, g = w7.heap.size := ⟨_, rfl⟩
        rw [← hybe] at hY hyb ⊢
        clear hybe hyo hown hb7 hb8 hy1 J6
        obtain ⟨cB, w9, hcv, hb9, _, hcap, hmem, hsl9⟩ := conv_bytes ⟨l.toArray⟩ w8
        have esz : (⟨l.toArray⟩ : ByteArray).size = l.length := by show l.toArray.size = _; simp
        have edl : (⟨l.toArray⟩ : ByteArray).data.toList = l := rfl
        rw [esz] at hcv hcap hsl9
        rw [edl] at hmem hsl9
        have hrof := rof_any w8.heap.size cB l w9 hmem hcap (by omega)
        go_upto_region 14 with (first | (go_at_call 15; refine hrof.mono ?_; rintro e w10 ⟨z, ok, rfl, hb10, hzo, hres2⟩; have hzV := hzo.len; obtain ⟨Az, cz, hzpl⟩ : ∃ A c, z.pl = .slice A z.P.length c := hzo.pl.elim fun A h => h.elim fun c h => ⟨A, c, h.1⟩; obtain ⟨Au, cu, hzto⟩ := hzo.to.shape; have hz1 := evc_one z (by rw [hzpl]; rfl) (by rw [hzto]; rfl)) | (refine wpList_store_mid rfl 30 _ _ rfl w10.heap.size 0 (evc z) rfl rfl (ev_thereAll (Blk.new w10 30 (evc knZ)) rfl hzV) (evc_info hzV) hz1 ?_; try simp only [Act.put, List.setIfInBounds_toArray, List.set_cons_zero, List.set_cons_succ]))
        change Code.wp _ _ _ _ ((w10.alloc (.cells (evc knZ) 30)).setCells w10.heap.size 0 (evc z).toList)
        have hZ : Blk ((w10.alloc (.cells (evc knZ) 30)).setCells w10.heap.size 0 (evc z).toList) w10.heap.size 30 (evc z) := (Blk.new w10 30 (evc knZ)).setRow (by rw [evc_size hzV]; rfl)
        have hb11 : Below w10.heap.size w10 ((w10.alloc (.cells (evc knZ) 30)).setCells w10.heap.size 0 (evc z).toList) := Below.only ((Below.refl _ _).alloc (Nat.le_refl _) _) (grown_setCells _ _ _ _) (Nat.le_refl _) (by simp)
        generalize (w10.alloc (.cells (evc knZ) 30)).setCells w10.heap.size 0 (evc z).toList = w11 at hZ hb11 ⊢
        have hzo11 := hzo.below hb11
        have hb811 := (hb9.trans (hb10.mono hb9.size)).trans (hb11.mono (Nat.le_trans hb9.size hb10.size))
        have hyo11 := hyo8.below hb811
        have hown11 := hown8.below hb811 (Nat.le_refl _)
        have hY11 := hY.below hb811 hY.lt
        have hb011 := hb08.trans (hb811.mono hb08.size)
        obtain ⟨zb, hzbe⟩ : ∃ g, g = w10.heap.size := ⟨_, rfl⟩
        rw [← hzbe] at hZ ⊢
        clear hzbe hzo hb9 hb10 hb11 hz1 hyo8 hown8 hY hb08 hcv hmem hsl9 hrof hb811
        obtain ⟨⟨pz, tz, rfl⟩, hnk, hT, hPm⟩ := agree hres hres2
        have HPM := Lib.hid hPm
        clear hPm
        clear hres hres2
        rcases hnk with ⟨rfl, rfl⟩ | ⟨rfl, rfl⟩
        · go_upto_region 16 with (first | (refine wpList_load_mid_g (by rfl) 30 _ rfl (yb) 0 rfl (evc y) _ (ev_all hY11) Try.underlying30 rfl (evc_info hyV) ?_; try simp only [Act.put, List.setIfInBounds_toArray, List.set_cons_zero, List.set_cons_succ]) | (refine wpList_load_mid_g (by rfl) 30 _ rfl (zb) 0 rfl (evc ⟨y.id, y.topic, pz, y.P, y.V, tz, y.T⟩) _ (ev_all hZ) Try.underlying30 rfl (evc_info hzV) ?_; try simp only [Act.put, List.setIfInBounds_toArray, List.set_cons_zero, List.set_cons_succ]) | (go_at_call 16; refine (rsame_any y pz tz _ hyo11 hzo11 hT).mono ?_; rintro e w12 ⟨rfl, hg12⟩; have hown12 := hown11.below hg12.below (Nat.le_refl _); have hY12 := hY11.below hg12.below hY11.lt; have hb012 := hb011.trans (hg12.below.mono hb011.size)) | (go_at_call 13; refine (num_any _ _).mono ?_; rintro e wn ⟨rfl, rfl⟩))
          clear hZ hyo11 hzo11 hown11 hY11 hb011 hg12 hzpl hzto
          have HST := Lib.hid hst
          have HB0 := Lib.hid hB0
          have HO := Lib.hid hown12
          have HY := Lib.hid hY12
          have HB12 := Lib.hid hb012
          clear hst hB0 hown12 hY12 hb012
          go_wp2
          go_loopw [12] (fun q wr => ∃ (i : Nat) (P : List UInt8), q = .int .i64 (i : Int) ∧ i ≤ y.P.length ∧ P.length = y.P.length ∧ Own wr Z1.heap.size 5 y.pl P ∧ Blk wr yb 30 (evc y) ∧ Below Z1.heap.size Z1 wr) (fun q _ => y.P.length - (intOf q).toNat)
          case atStart => exact ⟨0, y.P, rfl, Nat.zero_le _, rfl, HO.out, HY.out, HB12.out⟩
          case round =>
            clear HO HY HB12
            obtain ⟨i, P, rfl, hi, hP, ho, hY, hb⟩ := hrel
            have hc3 : wr.cell? ⟨yb, 3, none⟩ = some (.slice Ay y.P.length cy) := by rw [ev_3 hY, hypl]
            rw [hypl] at ho
            by_cases hlt : i < y.P.length
            · obtain ⟨g, rfl, hg, hcell, hfr⟩ := ho.byteAt_ i (by omega)
              have hli : (i : Int) < (y.P.length : Int) := by omega
              have hlb : (0 : Int) ≤ (i : Int) := by omega
              have hput := ho.put_ i 9
              have hgr := grown_setCell wr g i (.int .u8 9)
              have hYn := hY.grown hgr (own_ne ho hY (by decide))
              have hbn := Below.only hb hgr hg hb.size
              have hPn : (P.set i 9).length = y.P.length := by simpa using hP
              have hpmax := HPM.out
              clear hY hb ho
              go_wp2
              exact ⟨⟨i + 1, P.set i 9, by go_num, by omega, hPn, by rw [hypl]; exact hput, hYn, hbn⟩, by simp [intOf]; omega⟩
            · obtain rfl : i = y.P.length := by omega
              have hc1 := conv_any (HST.out.below hb)
              go_wp2_with (first | (go_at_call 8; refine (known_any _).mono ?_; rintro e wk ⟨rfl, hgk⟩))
              go_ret
              exact ⟨rfl, (HB0.out.trans (hb.mono HB0.out.size)).trans (hgk.below.mono (Nat.le_trans HB0.out.size hb.size))⟩
        · go_upto_region 16 with (first | (refine wpList_load_mid_g (by rfl) 30 _ rfl (yb) 0 rfl (evc y) _ (ev_all hY11) Try.underlying30 rfl (evc_info hyV) ?_; try simp only [Act.put, List.setIfInBounds_toArray, List.set_cons_zero, List.set_cons_succ]) | (refine wpList_load_mid_g (by rfl) 30 _ rfl (zb) 0 rfl (evc ⟨y.id, y.topic, pz, y.P, y.V, tz, y.T⟩) _ (ev_all hZ) Try.underlying30 rfl (evc_info hzV) ?_; try simp only [Act.put, List.setIfInBounds_toArray, List.set_cons_zero, List.set_cons_succ]) | (go_at_call 16; refine (rsame_any y pz tz _ hyo11 hzo11 hT).mono ?_; rintro e w12 ⟨rfl, hg12⟩; have hown12 := hown11.below hg12.below (Nat.le_refl _); have hY12 := hY11.below hg12.below hY11.lt; have hb012 := hb011.trans (hg12.below.mono hb011.size)) | (go_at_call 13; refine (num_any _ _).mono ?_; rintro e wn ⟨rfl, rfl⟩))
          clear hZ hyo11 hzo11 hown11 hY11 hb011 hg12 hzpl hzto
          have HST := Lib.hid hst
          have HB0 := Lib.hid hB0
          have HO := Lib.hid hown12
          have HY := Lib.hid hY12
          have HB12 := Lib.hid hb012
          clear hst hB0 hown12 hY12 hb012
          go_wp2
          go_loopw [12] (fun q wr => ∃ (i : Nat) (P : List UInt8), q = .int .i64 (i : Int) ∧ i ≤ y.P.length ∧ P.length = y.P.length ∧ Own wr Z1.heap.size 5 y.pl P ∧ Blk wr yb 30 (evc y) ∧ Below Z1.heap.size Z1 wr) (fun q _ => y.P.length - (intOf q).toNat)
          case atStart => exact ⟨0, y.P, rfl, Nat.zero_le _, rfl, HO.out, HY.out, HB12.out⟩
          case round =>
            clear HO HY HB12
            obtain ⟨i, P, rfl, hi, hP, ho, hY, hb⟩ := hrel
            have hc3 : wr.cell? ⟨yb, 3, none⟩ = some (.slice Ay y.P.length cy) := by rw [ev_3 hY, hypl]
            rw [hypl] at ho
            by_cases hlt : i < y.P.length
            · obtain ⟨g, rfl, hg, hcell, hfr⟩ := ho.byteAt_ i (by omega)
              have hli : (i : Int) < (y.P.length : Int) := by omega
              have hlb : (0 : Int) ≤ (i : Int) := by omega
              have hput := ho.put_ i 9
              have hgr := grown_setCell wr g i (.int .u8 9)
              have hYn := hY.grown hgr (own_ne ho hY (by decide))
              have hbn := Below.only hb hgr hg hb.size
              have hPn : (P.set i 9).length = y.P.length := by simpa using hP
              have hpmax := HPM.out
              clear hY hb ho
              go_wp2
              exact ⟨⟨i + 1, P.set i 9, by go_num, by omega, hPn, by rw [hypl]; exact hput, hYn, hbn⟩, by simp [intOf]; omega⟩
            · obtain rfl : i = y.P.length := by omega
              have hc1 := conv_any (HST.out.below hb)
              go_wp2_with (first | (go_at_call 8; refine (known_any _).mono ?_; rintro e wk ⟨rfl, hgk⟩))
              go_ret
              exact ⟨rfl, (HB0.out.trans (hb.mono HB0.out.size)).trans (hgk.below.mono (Nat.le_trans HB0.out.size hb.size))⟩
    · have hli : (70000 : Int) < (l.length : Int) := by omega
      have hld : decide ((70000 : Int) < (l.length : Int)) = true := decide_eq_true hli
      go_wp2_with (first | (go_at_call 8; refine (known_any _).mono ?_; rintro e wk ⟨rfl, hgk⟩))
      go_ret
      exact ⟨rfl, J2.b.trans (hgk.below.mono J2.b.size)⟩
  · go_wp2_with (first | (go_at_call 8; refine (known_any _).mono ?_; rintro e wk ⟨rfl, hgk⟩))
    go_ret
    exact ⟨rfl, J2.b.trans (hgk.below.mono J2.b.size)⟩
end Go.Proofs.Ytigepbklpiilpaa

/-
  event.Of.
-/
import Derived.Test.YtigepbklpiilpaaEvOf
import Derived.Deep.Cut
namespace Go.Proofs.Ytigepbklpiilpaa
open Go.RowKit
open CtxM
set_option linter.unusedVariables false
set_option linter.unusedSimpArgs false
set_option maxRecDepth 20000

/-- Where the reading of an event stands: its block, the result's block, the reader. -/
structure Rg (w W : World) (g : Nat) (E : Ev) (o : Option (List UInt8)) : Prop where
  e : Blk W (w.heap.size + 1) 30 (evc E)
  r : Blk W w.heap.size 30 (evc knZ)
  o : Ro W g o
  b : Below w.heap.size w W
  g : w.heap.size + 2 ≤ g
section
variable {w W W' : World} {g : Nat} {E : Ev} {o : Option (List UInt8)}
theorem Rg.call (h : Rg w W g E o) {o' : Option (List UInt8)} (hg : W.grownBy W' (some g)) (ho : Ro W' g o') : Rg w W' g E o' :=
  ⟨h.e.grown hg (fun e => by injection e with e; have := h.g; omega), h.r.grown hg (fun e => by injection e with e; have := h.g; omega), ho, h.b.grown hg h.b.size (fun k hk => by injection hk with hk; have := h.g; omega), h.g⟩
theorem Rg.below (h : Rg w W g E o) (hb : Below W.heap.size W W') : Rg w W' g E o :=
  ⟨h.e.below hb h.e.lt, h.r.below hb h.r.lt, h.o.below hb, h.b.trans (hb.mono h.b.size), h.g⟩
theorem far_blk {W : World} {g k : Nat} {t : TypeId} {cs : Array Value} (h : Blk W g t cs) (hne : g ≠ k) : ∀ (vs : List Value) (i : Nat), Blk (W.setCells k i vs) g t cs := fun vs i => by
  have := grown_setCells k vs i W
  exact h.grown this (fun e => hne (by injection e))
theorem Rg.sets (h : Rg w W g E o) (i : Nat) (vs : List Value) {E' : Ev} (he : Blk (W.setCells (w.heap.size + 1) i vs) (w.heap.size + 1) 30 (evc E')) : Rg w (W.setCells (w.heap.size + 1) i vs) g E' o :=
  ⟨he, far_blk h.r (by omega) vs i, Ro.fars (by decide) (by decide) vs i W _ h.o h.e, Below.only h.b (grown_setCells _ _ _ _) (by omega) h.b.size, h.g⟩
end

theorem evc_one (x : Ev) (h1 : x.pl.oneCell' = true) (h2 : x.to.oneCell' = true) : (evc x).all (·.oneCell') = true := all_oneCell_toArray fun v hv => by
  simp only [evl, List.mem_cons, List.mem_append, List.mem_map, List.not_mem_nil, or_false] at hv
  rcases hv with rfl | rfl | rfl | rfl | ⟨n, _, rfl⟩ | rfl
  · rfl
  · rfl
  · rfl
  · exact h1
  · rfl
  · exact h2
theorem ev_thereAll {w : World} {g : Nat} {t : TypeId} {E E' : Ev} (h : Blk w g t (evc E)) (hV : E.V.length = 16) (hV' : E'.V.length = 16) : w.there g 0 (evc E').size := by
  have := h.there
  rwa [evc_size hV, ← evc_size hV'] at this

set_option maxHeartbeats 8000000 in
theorem eof_any (v : Value) (L : List UInt8) (w : World) (hs : Sl w v L) (hl : L.length ≤ 100000) : Calls Try.prog 14 #[v] w (OfEnd L w) := by
  have hE0 := Blk.new (w.alloc (.cells (evc knZ) 30)) 30 (evc knZ)
  have hR0 := (Blk.new w 30 (evc knZ)).alloc (.cells (evc knZ) 30)
  have hb0 : Below w.heap.size w ((w.alloc (.cells (evc knZ) 30)).alloc (.cells (evc knZ) 30)) := ((Below.refl _ _).alloc (Nat.le_refl _) _).alloc (by simp) _
  have hz0 : ((w.alloc (.cells (evc knZ) 30)).alloc (.cells (evc knZ) 30)).heap.size = w.heap.size + 2 := by simp
  rw [show (w.alloc (.cells (evc knZ) 30)).heap.size = w.heap.size + 1 by simp] at hE0
  have hs0 := hs.below hb0
  obtain ⟨Ab, cb, rfl, _⟩ := id hs
  clear hs
  go_enter Try.func14, Try.ntmps14
  go_upto_region 2 with fail
  change Code.wp _ _ _ _ ((w.alloc (.cells (evc knZ) 30)).alloc (.cells (evc knZ) 30))
  generalize (w.alloc (.cells (evc knZ) 30)).alloc (.cells (evc knZ) 30) = w1 at hE0 hR0 hb0 hz0 hs0 ⊢
  have hl6 : L.length ≤ 1000000 := by omega
  go_upto_region 3 with (go_at_call 39; refine (read_any _ L _ hs0 hl6).mono ?_; rintro e w2 ⟨g, rfl, hgl, hr, hb2⟩)
  have J2 : Rg w w2 g knZ (some L) := ⟨hE0.below hb2 hE0.lt, hR0.below hb2 hR0.lt, hr, hb0.trans (hb2.mono hb0.size), by omega⟩
  have hsm : Small (some L) := fun l h => by injection h with h; rw [← h]; exact hl
  clear hE0 hR0 hb0 hz0 hs0 hb2 hr hgl hl6
  have hlo : lastO L = left (tosO (left (vecO (left (blobO (left (blobO (left (dotO (some L)))))))))) := rfl
  have hyes := fun (d : Dt) (t p : List UInt8) (V : List Nat) (T : List De) => @evO_yes L d t p V T
  rw [hlo] at hyes
  have HNO := Lib.hid (@evOf_no L)
  rw [hlo] at HNO
  have HYES := Lib.hid hyes
  clear hlo hyes
  generalize some L = o0 at J2 hsm HNO HYES
  have hg2 := J2.g
  have x0 := ev_0 J2.e
  have x1 := ev_1 J2.e
  -- the ID
  go_upto_region 4 with (go_at_call 40; refine (pdot_any g o0 _ J2.o hsm).mono ?_; rintro e w3 ⟨d, rfl, hd, hr3, hg3⟩; have J3 := J2.call hg3 hr3; have y0 := ev_0 J3.e; have y1 := ev_1 J3.e; have z0 := J3.e.frozen 0; have z1 := J3.e.frozen 1)
  have J4 := J3.sets 0 [.int .i64 d.1, .int .u64 (d.2 : Int)] (J3.e.evId d)
  change Code.wp _ _ _ _ (w3.setCells (w.heap.size + 1) 0 [.int .i64 d.1, .int .u64 (d.2 : Int)])
  generalize w3.setCells (w.heap.size + 1) 0 [.int .i64 d.1, .int .u64 (d.2 : Int)] = w4 at J4 ⊢
  have hs4 := hsm.dot
  have HD := Lib.hid hd
  clear x0 x1 y0 y1 z0 z1 J2 J3 hr3 hg3 hsm hd
  -- the Topic
  go_upto_region 5 with (go_at_call 41; refine (pblob_any g _ _ J4.o hs4).mono ?_; rintro e w5 ⟨vt, t, rfl, hst, ht, htl, hr5, hg5⟩; obtain ⟨At, nt, ct, rfl⟩ := hst.shape; have hcv := conv_any hst; have J5 := J4.call hg5 hr5; have y2 := ev_2 J5.e; have z2 := J5.e.frozen 2)
  have J6 := J5.sets 2 [.string ⟨t.toArray⟩] (J5.e.evTopic ⟨t.toArray⟩)
  change Code.wp _ _ _ _ (w5.setCells (w.heap.size + 1) 2 [.string ⟨t.toArray⟩])
  generalize w5.setCells (w.heap.size + 1) 2 [.string ⟨t.toArray⟩] = w6 at J6 ⊢
  have hs6 := hs4.blob
  have HTO := Lib.hid ht
  clear y2 z2 J4 J5 hr5 hg5 hs4 hst hcv ht htl
  -- the Payload
  go_upto_region 6 with (first | (go_at_call 41; refine (pblob_any g _ _ J6.o hs6).mono ?_; rintro e w7 ⟨vp, p, rfl, hsp, hp, hpl, hr7, hg7⟩; obtain ⟨Ap, np, cp, rfl⟩ := hsp.shape; have J7 := J6.call hg7 hr7; have hls := Sls.of_new w7 25 #[.slice Ap np cp] [p] 1 rfl ⟨hsp, trivial⟩; have J8 := J7.below ((Below.refl _ _).alloc (Nat.le_refl _) (.cells #[.slice Ap np cp] 25)); have hfl : [p].flatten.length ≤ 1000000 := (by simp; omega)) | (go_at_call 42; refine (join_any _ [p] _ hls hfl (by simp)).mono ?_; rintro e w9 ⟨v9, rfl, ho9, hb9⟩; obtain ⟨A9, n9, c9, rfl⟩ := ho9.shape; have J9 := J8.below hb9; have y3 := ev_3 J9.e; have z3 := J9.e.frozen 3))
  have hw7 : g + 1 ≤ w7.heap.size := J7.o.lt
  have J10 := J9.sets 3 [.slice A9 n9 c9] (J9.e.evPl (.slice A9 n9 c9) p)
  have ho10 : Own (w9.setCells (w.heap.size + 1) 3 [.slice A9 n9 c9]) (g + 1) 5 (.slice A9 n9 c9) p := by
    have h1 : Own w9 (g + 1) 5 (.slice A9 n9 c9) p := by
      have := ho9.mono (B := g + 1) (by simp; omega)
      simpa using this
    exact h1.grown (grown_setCells (w.heap.size + 1) [.slice A9 n9 c9] 3 w9) (fun k hk => by injection hk with hk; omega)
  change Code.wp _ _ _ _ (w9.setCells (w.heap.size + 1) 3 [.slice A9 n9 c9])
  generalize w9.setCells (w.heap.size + 1) 3 [.slice A9 n9 c9] = w10 at J10 ho10 ⊢
  have hs10 := hs6.blob
  have HP := Lib.hid hp
  clear y3 z3 J6 J7 J8 J9 hr7 hg7 hs6 hsp hp hpl hls hfl ho9 hb9 hw7
  have hV0 : ({ ({ ({ knZ with id := d } : Ev) with topic := ⟨t.toArray⟩ } : Ev) with pl := .slice A9 n9 c9, P := p } : Ev).V.length = 16 := rfl
  -- the Past
  go_upto_region 7 with (first | (go_at_call 43; refine (pvec_any g _ _ J10.o hs10).mono ?_; rintro e w11 ⟨V, rfl, hVl, hVt, hVV, hr11, hg11⟩; have J11 := J10.call hg11 hr11; have hth := ev_there J11.e hV0 V hVl; have hiv := uqs_info hVl; have hone := uqs_one V; have ho11 := ho10.grown hg11 (fun k hk => by injection hk with hk; omega)) | (refine wpList_store_mid rfl 27 _ _ rfl (w.heap.size + 1) 4 (uqs V) rfl rfl hth hiv hone ?_; try simp only [Act.put, List.setIfInBounds_toArray, List.set_cons_zero, List.set_cons_succ]))
  have J12 := J11.sets 4 (uqs V).toList (J11.e.evPast hV0 V hVl)
  have ho12 := ho11.grown (grown_setCells (w.heap.size + 1) (uqs V).toList 4 w11) (fun k hk => by injection hk with hk; omega)
  change Code.wp _ _ _ _ (w11.setCells (w.heap.size + 1) 4 (uqs V).toList)
  generalize w11.setCells (w.heap.size + 1) 4 (uqs V).toList = w12 at J12 ho12 ⊢
  have hs12 := hs10.vec
  have HV := Lib.hid hVV
  clear J10 J11 hr11 hg11 hs10 hVV hth hiv hone ho10 ho11
  -- to whom it goes
  have hV1 : ({ ({ ({ ({ knZ with id := d } : Ev) with topic := ⟨t.toArray⟩ } : Ev) with pl := .slice A9 n9 c9, P := p } : Ev) with V := V } : Ev).V.length = 16 := hVl
  go_upto_region 8 with (first | (go_at_call 44; refine (readTo_any g _ _ J12.o hs12).mono ?_; rintro e w13 ⟨vT, T, rfl, hoT, hT, hr13, hg13⟩; obtain ⟨AT, cT, rfl⟩ := hoT.se.shape; have J13 := J12.call hg13 hr13; have y20 := ev_20 J13.e hV1; have z20 := J13.e.frozen 20; have ho13 := ho12.grown hg13 (fun k hk => by injection hk with hk; omega)))
  have hw12 : g + 1 ≤ w12.heap.size := J12.o.lt
  have J14 := J13.sets 20 [.slice AT T.length cT] (J13.e.evTo hV1 (.slice AT T.length cT) T)
  have ho14 := ho13.grown (grown_setCells (w.heap.size + 1) [.slice AT T.length cT] 20 w13) (fun k hk => by injection hk with hk; omega)
  have hoT14 := hoT.grown (grown_setCells (w.heap.size + 1) [.slice AT T.length cT] 20 w13) (by omega)
  change Code.wp _ _ _ _ (w13.setCells (w.heap.size + 1) 20 [.slice AT T.length cT])
  generalize w13.setCells (w.heap.size + 1) 20 [.slice AT T.length cT] = w14 at J14 ho14 hoT14 ⊢
  have HT := Lib.hid hT
  clear J12 J13 hr13 hg13 hs12 hT ho12 ho13 hoT y20 z20
  obtain ⟨E, hE⟩ : ∃ E : Ev, E = ⟨d, ⟨t.toArray⟩, .slice A9 n9 c9, p, V, .slice AT T.length cT, T⟩ := ⟨_, rfl⟩
  change Rg w w14 g ⟨d, ⟨t.toArray⟩, .slice A9 n9 c9, p, V, .slice AT T.length cT, T⟩ _ at J14
  have hOk : EvOk w14 E := by rw [hE]; exact ⟨ho14.sl, hoT14.se, hVl, hVt⟩
  have hOT : OwnE w14 (g + 1) E.to E.T := by rw [hE]; exact hoT14.mono hw12
  have hEo : (evc E).all (·.oneCell') = true := by rw [hE]; exact evc_one _ rfl rfl
  have hVt2 : ∀ n ∈ E.V, n < 18446744073709551616 := by rw [hE]; exact hVt
  have hOw : Own w14 (g + 1) 5 E.pl E.P := by rw [hE]; exact ho14
  have HPL : Hid (plain E = (d, ⟨t.toArray⟩, p, V, T)) := by rw [hE]; exact Lib.hid rfl
  rw [← hE] at J14
  have hV : E.V.length = 16 := by rw [hE]; exact hVl
  clear hE hV0 hV1 ho14 hoT14 hVl hVt hw12
  obtain ⟨lo, hlo⟩ : ∃ l, left (tosO (left (vecO (left (blobO (left (blobO (left (dotO o0)))))))))  = l := ⟨_, rfl⟩
  have hno := HNO.out
  have hyes := HYES.out
  rw [hlo] at J14 hno hyes
  have HNO2 := Lib.hid hno
  have HYES2 := Lib.hid (fun (h : lo = some []) => (hyes d t p V T h HD.out HTO.out HP.out HV.out HT.out))
  have hend := end_any g lo w14 J14.o
  have HBUZ := Lib.hid bu_z
  have hZo : (evc knZ).all (·.oneCell') = true := evc_one _ rfl rfl
  clear hlo hno hyes HNO HYES
  by_cases hfin : lo = some []
  · rw [if_pos hfin] at hend
    have HF := Lib.hid hfin
    clear hfin
    have HPE := Lib.hid (show evO L = some (plain E) by rw [HYES2.out HF.out, HPL.out])
    cases hEB : evB E
    · have HEB := Lib.hid hEB
      clear hEB
      go_wp2_with (first | (go_at_call 45; refine hend.mono ?_; rintro e w15 ⟨rfl, rfl⟩) | (refine wpList_load_mid_g (by rfl) 30 _ rfl (w.heap.size + 1) 0 rfl (evc E) _ (ev_all J14.e) Try.underlying30 rfl (evc_info hV) ?_; try simp only [Act.put, List.setIfInBounds_toArray, List.set_cons_zero, List.set_cons_succ]) | (go_at_call 10; refine (emay_any E _ hOk).mono ?_; rintro e w16 ⟨rfl, hg16⟩; rw [HEB.out]; have J16 := J14.below hg16.below) | (refine wpList_build_g 34 rfl (by rfl) 30 _ rfl (evc knZ) (Eq.trans (by kernel_rfl) HBUZ.out) ?_; try simp only [Act.put, List.setIfInBounds_toArray, List.set_cons_zero, List.set_cons_succ]) | (refine wpList_store_mid rfl 30 _ _ rfl w.heap.size 0 (evc knZ) rfl rfl (ev_thereAll J16.r rfl rfl) (evc_info rfl) hZo ?_; try simp only [Act.put, List.setIfInBounds_toArray, List.set_cons_zero, List.set_cons_succ]))
      have hF := J16.r.setRow (ds := evc knZ) (by first | rfl | (rw [evc_size rfl]; done) | (rw [evc_size hV]; rfl))
      have hgF := grown_setCells w.heap.size (evc knZ).toList 0 w16
      exact bodyPost_ret (v := .tuple #[.agg (evc knZ), .int .i64 4]) (results_row_tmp rfl _ _ w.heap.size 30 (evc knZ) (0, 0) _ (.int .i64 4) rfl rfl hF Try.underlying30 rfl (evc_info rfl)) rfl ⟨knZ, 4, rfl, Below.only J16.b hgF (Nat.le_refl _) J16.b.size, knZ_ok _, Own.nil, .inr ⟨by unfold evOf; rw [HPE.out]; show (if plB (plain E) = true then some (plain E) else none) = none; rw [← evB_plain, HEB.out]; rfl, rfl, rfl⟩⟩
    · have HEB := Lib.hid hEB
      clear hEB
      go_wp2_with (first | (go_at_call 45; refine hend.mono ?_; rintro e w15 ⟨rfl, rfl⟩) | (refine wpList_load_mid_g (by rfl) 30 _ rfl (w.heap.size + 1) 0 rfl (evc E) _ (ev_all J14.e) Try.underlying30 rfl (evc_info hV) ?_; try simp only [Act.put, List.setIfInBounds_toArray, List.set_cons_zero, List.set_cons_succ]) | (refine wpList_load_mid_g (by rfl) 30 _ rfl (w.heap.size + 1) 0 rfl (evc E) _ (ev_all J16.e) Try.underlying30 rfl (evc_info hV) ?_; try simp only [Act.put, List.setIfInBounds_toArray, List.set_cons_zero, List.set_cons_succ]) | (go_at_call 10; refine (emay_any E _ hOk).mono ?_; rintro e w16 ⟨rfl, hg16⟩; rw [HEB.out]; have J16 := J14.below hg16.below) | (refine wpList_store_mid rfl 30 _ _ rfl w.heap.size 0 (evc E) rfl rfl (ev_thereAll J16.r rfl hV) (evc_info hV) hEo ?_; try simp only [Act.put, List.setIfInBounds_toArray, List.set_cons_zero, List.set_cons_succ]))
      have hF := J16.r.setRow (ds := evc E) (by first | rfl | (rw [evc_size hV]; done) | (rw [evc_size hV]; rfl))
      have hgF := grown_setCells w.heap.size (evc E).toList 0 w16
      have hO1 := (hOw.below hg16.below (Nat.le_refl _)).grown hgF (fun k hk => by injection hk with hk; omega)
      have hO2 := (hOT.below hg16.below).grown hgF (by omega)
      exact bodyPost_ret (v := .tuple #[.agg (evc E), .int .i64 0]) (results_row_tmp rfl _ _ w.heap.size 30 (evc E) (0, 0) _ (.int .i64 0) rfl rfl hF Try.underlying30 rfl (evc_info hV)) rfl ⟨E, 0, rfl, Below.only J16.b hgF (Nat.le_refl _) J16.b.size, ⟨hO1.sl, hO2.se, hV, hVt2⟩, hO1.mono (by omega), .inl ⟨by unfold evOf; rw [HPE.out]; show (if plB (plain E) = true then some (plain E) else none) = some (plain E); rw [← evB_plain, HEB.out]; rfl, rfl⟩⟩
  · rw [if_neg hfin] at hend
    have HF := Lib.hid hfin
    clear hfin
    go_wp2_with (first | (go_at_call 45; refine hend.mono ?_; rintro e w15 ⟨rfl, rfl⟩) | (refine wpList_build_g 34 rfl (by rfl) 30 _ rfl (evc knZ) (Eq.trans (by kernel_rfl) HBUZ.out) ?_; try simp only [Act.put, List.setIfInBounds_toArray, List.set_cons_zero, List.set_cons_succ]) | (refine wpList_store_mid rfl 30 _ _ rfl w.heap.size 0 (evc knZ) rfl rfl (ev_thereAll J14.r rfl rfl) (evc_info rfl) hZo ?_; try simp only [Act.put, List.setIfInBounds_toArray, List.set_cons_zero, List.set_cons_succ]))
    have hF := J14.r.setRow (ds := evc knZ) (by first | rfl | (rw [evc_size rfl]; done) | (rw [evc_size hV]; rfl))
    have hgF := grown_setCells w.heap.size (evc knZ).toList 0 w14
    exact bodyPost_ret (v := .tuple #[.agg (evc knZ), .int .i64 4]) (results_row_tmp rfl _ _ w.heap.size 30 (evc knZ) (0, 0) _ (.int .i64 4) rfl rfl hF Try.underlying30 rfl (evc_info rfl)) rfl ⟨knZ, 4, rfl, Below.only J14.b hgF (Nat.le_refl _) J14.b.size, knZ_ok _, Own.nil, .inr ⟨HNO2.out HF.out, rfl, rfl⟩⟩
end Go.Proofs.Ytigepbklpiilpaa

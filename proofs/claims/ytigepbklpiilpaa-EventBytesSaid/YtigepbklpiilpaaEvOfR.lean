/-
  The document's Of.
-/
import Derived.Test.YtigepbklpiilpaaEvOfW
import Derived.Test.YtigepbklpiilpaaEvLawOrder
import Derived.Test.YtigepbklpiilpaaEvRMay
import Derived.Test.YtigepbklpiilpaaEvBy
import Derived.Deep.Cut
namespace Go.Proofs.Ytigepbklpiilpaa
open Go.RowKit
open CtxM
set_option linter.unusedVariables false
set_option linter.unusedSimpArgs false
set_option maxRecDepth 20000

section
variable {w W W' : World} {h bb cB : Nat} {L : List UInt8} {o : Option (List UInt8)}
theorem Do.grown (r : Do W h bb cB L o) {g : Nat} {t : TypeId} {cs : Array Value} (hB : Blk W g t cs) (ht : t ≠ 79) (hgr : W.grownBy W' (some g)) : Do W' h bb cB L o := by
  cases o with
  | none => obtain ⟨a, r⟩ := r; exact ⟨a, r.grown hB ht hgr⟩
  | some l => obtain ⟨a, r, e⟩ := r; exact ⟨a, r.grown hB ht hgr, e⟩
theorem Do.blk (r : Do W h bb cB L o) : ∃ v a, Blk W h 79 #[v, a, .bool o.isNone] := by
  cases o with
  | none => obtain ⟨a, r⟩ := r; exact ⟨_, _, r.blk⟩
  | some l => obtain ⟨a, r, e⟩ := r; exact ⟨_, _, r.blk⟩
/-- Part of the bytes that are read, in whatever later world. -/
theorem SlB.any {v : Value} {p : List UInt8} {B : Nat} (s : SlB W bb v p) (hb : Below B w W) (hb' : Below B w W') (hB : bb < B) : Sl W' v p := by
  obtain ⟨A, c, rfl, hc, ha⟩ := s
  refine ⟨A, c, rfl, hc, fun hn => ?_⟩
  obtain ⟨o, rfl, hx⟩ := ha hn
  exact ⟨bb, o, rfl, fun j hj => by rw [hb'.cell (by exact hB), ← hb.cell (by exact hB)]; exact hx j hj⟩
/-- Where the document's reading of an event stands. -/
structure Dg (w W : World) (bb cB : Nat) (L : List UInt8) (E : Ev) (o : Option (List UInt8)) : Prop where
  e : Blk W (w.heap.size + 2) 30 (evc E)
  r : Blk W w.heap.size 30 (evc knZ)
  o : Do W (w.heap.size + 1) bb cB L o
  b : Below w.heap.size w W
variable {E : Ev}
theorem Dg.call (h : Dg w W bb cB L E o) {o' : Option (List UInt8)} (hg : W.grownBy W' (some (w.heap.size + 1))) (ho : Do W' (w.heap.size + 1) bb cB L o') : Dg w W' bb cB L E o' :=
  ⟨h.e.grown hg (fun e => by injection e with e; omega), h.r.grown hg (fun e => by injection e with e; omega), ho, h.b.grown hg h.b.size (fun k hk => by injection hk with hk; omega)⟩
theorem Dg.below (h : Dg w W bb cB L E o) (hb : Below W.heap.size W W') : Dg w W' bb cB L E o :=
  ⟨h.e.below hb h.e.lt, h.r.below hb h.r.lt, h.o.below hb, h.b.trans (hb.mono h.b.size)⟩
theorem Dg.sets (h : Dg w W bb cB L E o) (i : Nat) (vs : List Value) {E' : Ev} (he : Blk (W.setCells (w.heap.size + 2) i vs) (w.heap.size + 2) 30 (evc E')) : Dg w (W.setCells (w.heap.size + 2) i vs) bb cB L E' o :=
  ⟨he, far_blk h.r (by omega) vs i, h.o.grown h.e (by decide) (grown_setCells _ _ _ _), Below.only h.b (grown_setCells _ _ _ _) (by omega) h.b.size⟩
/-- Another block written. -/
theorem Dg.other (h : Dg w W bb cB L E o) {g : Nat} {t : TypeId} {cs : Array Value} (hB : Blk W g t cs) (ht : t ≠ 79) (hg3 : w.heap.size + 3 ≤ g) (hgr : W.grownBy W' (some g)) : Dg w W' bb cB L E o :=
  ⟨h.e.grown hgr (fun e => by injection e with e; omega), h.r.grown hgr (fun e => by injection e with e; omega), h.o.grown hB ht hgr, h.b.grown hgr h.b.size (fun k hk => by injection hk with hk; omega)⟩
end
theorem dend_any (h bb cB : Nat) (L : List UInt8) (o : Option (List UInt8)) (w : World) (hr : Do w h bb cB L o) : Calls Try.prog 50 #[.pointer (some ⟨h, 0, none⟩)] w fun e w' => e = .returned (.int .i64 (if o = some [] then 0 else 4)) ∧ ∃ n, w' = w.drewN n := by
  cases o with
  | none =>
    obtain ⟨a, r⟩ := hr
    exact (refEnd_yes h bb cB a L w r).mono fun e w' ⟨he, hw⟩ => ⟨by rw [he]; rfl, 0, by rw [← hw]; rfl⟩
  | some l =>
    obtain ⟨a, r, e⟩ := hr
    exact (refEnd_no h bb cB a L w r).mono fun e' w' ⟨he, hw⟩ => ⟨by rw [he, e, endN]; by_cases h : l = [] <;> simp [h], hw⟩
theorem OwnE.blk {W : World} {base k : Nat} {v : Value} {A : List De} (h : OwnE W base v A) (hk : v.ownBlock = some k) : ∃ cur, Blk W k 55 cur := by
  rcases h.2 with ⟨rfl, _⟩ | ⟨g', cap, cur, rfl, _, hh, _⟩
  · cases hk
  · injection hk with hk
    subst hk
    exact ⟨cur, hh⟩
/-- The row grown. -/
theorem Dg.row {w W W' : World} {bb cB : Nat} {L : List UInt8} {E : Ev} {o : Option (List UInt8)} {v : Value} {A : List De} (h : Dg w W bb cB L E o) (ho : OwnE W (w.heap.size + 3) v A) (hgr : W.grownBy W' v.ownBlock) : Dg w W' bb cB L E o := by
  cases hk : v.ownBlock with
  | none => rw [hk] at hgr; exact h.below (below_of_grown hgr)
  | some k =>
    rw [hk] at hgr
    obtain ⟨cur, hB⟩ := ho.blk hk
    exact h.other hB (by decide) (ho.lt k hk).1 hgr
/-- What the document's reading answers. -/
def DOfEnd (L : List UInt8) (w : World) (e : Ending) (w' : World) : Prop := ∃ (z : Ev) (ok : Bool), e = .returned (.tuple #[.agg (evc z), .bool ok]) ∧ Below w.heap.size w w' ∧ EvOk w' z ∧
  ((evOf L = some (plain z) ∧ ok = true) ∨ (evOf L = none ∧ ok = false ∧ z = knZ))

set_option maxHeartbeats 8000000 in
theorem rof_any (bb cB : Nat) (L : List UInt8) (w : World) (hmem : ∃ C fr, w.heap[bb]? = some (.cells C 5 fr) ∧ fr ≠ (0, 0) ∧ ∀ j (hj : j < L.length), C[j]? = some (.int .u8 (L[j].toNat : Int))) (hcB : L.length ≤ cB) (hl : L.length ≤ 100000) :
    Calls Try.prog 15 #[.slice (some ⟨bb, 0, none⟩) L.length cB] w (DOfEnd L w) := by
  have hbb : bb < w.heap.size := by
    obtain ⟨C, fr, hh, _⟩ := hmem
    rcases Nat.lt_or_ge bb w.heap.size with h | h
    · exact h
    · rw [Array.getElem?_eq_none h] at hh; cases hh
  go_enter Try.func15, Try.ntmps15
  go_upto_region 3 with fail
  change Code.wp _ _ _ _ (((w.alloc (.cells (evc knZ) 30)).alloc (.cells #[.slice (some ⟨bb, 0, none⟩) L.length cB, .int .i64 0, .bool false] 79)).alloc (.cells (evc knZ) 30))
  have h3 := blk3 w 30 79 30 (evc knZ) #[.slice (some ⟨bb, 0, none⟩) L.length cB, .int .i64 0, .bool false] (evc knZ)
  have hb0 : Below w.heap.size w (((w.alloc (.cells (evc knZ) 30)).alloc (.cells #[.slice (some ⟨bb, 0, none⟩) L.length cB, .int .i64 0, .bool false] 79)).alloc (.cells (evc knZ) 30)) := (((Below.refl _ _).alloc (Nat.le_refl _) _).alloc (by simp) _).alloc (by simp; omega) _
  generalize (((w.alloc (.cells (evc knZ) 30)).alloc (.cells #[.slice (some ⟨bb, 0, none⟩) L.length cB, .int .i64 0, .bool false] 79)).alloc (.cells (evc knZ) 30)) = w2 at h3 hb0 ⊢
  have J2 : Dg w w2 bb cB L knZ (some L) := by
    obtain ⟨k1, k2, k3⟩ := h3
    obtain ⟨C, fr, hh, hne, hx⟩ := hmem
    exact ⟨k3, k1, ⟨0, ⟨k2, ⟨C, fr, (hb0.block bb hbb).trans hh, hne, hx⟩, Nat.zero_le _, hcB, hl⟩, rfl⟩, hb0⟩
  clear h3 hb0 hmem
  have hlo : lastO L = left (tosO (left (vecO (left (blobO (left (blobO (left (dotO (some L)))))))))) := rfl
  have hyes := fun (d : Dt) (t p : List UInt8) (V : List Nat) (T : List De) => @evO_yes L d t p V T
  rw [hlo] at hyes
  have HNO := Lib.hid (@evOf_no L)
  rw [hlo] at HNO
  have HYES := Lib.hid hyes
  clear hlo hyes
  generalize some L = o0 at J2 HNO HYES
  have x0 := ev_0 J2.e
  have x1 := ev_1 J2.e
  -- the ID
  go_upto_region 4 with (go_at_call 46; refine (ddot_any _ bb cB L o0 _ J2.o).mono ?_; rintro e w3 ⟨d, rfl, hd, hr3, hg3⟩; have J3 := J2.call hg3 hr3; have y0 := ev_0 J3.e; have y1 := ev_1 J3.e; have z0 := J3.e.frozen 0; have z1 := J3.e.frozen 1)
  have J4 := J3.sets 0 [.int .i64 d.1, .int .u64 (d.2 : Int)] (J3.e.evId d)
  change Code.wp _ _ _ _ (w3.setCells (w.heap.size + 2) 0 [.int .i64 d.1, .int .u64 (d.2 : Int)])
  generalize w3.setCells (w.heap.size + 2) 0 [.int .i64 d.1, .int .u64 (d.2 : Int)] = w4 at J4 ⊢
  have HD := Lib.hid hd
  clear x0 x1 y0 y1 z0 z1 J2 J3 hr3 hg3 hd
  -- the Topic
  go_upto_region 5 with (go_at_call 47; refine (dblob_any _ bb cB L _ _ J4.o).mono ?_; rintro e w5 ⟨vt, t, rfl, hst, ht, hr5, hg5⟩; have hst' := hst.sl; obtain ⟨At, nt, ct, rfl⟩ := hst'.shape; have hcv := conv_any hst'; have J5 := J4.call hg5 hr5; have y2 := ev_2 J5.e; have z2 := J5.e.frozen 2)
  have J6 := J5.sets 2 [.string ⟨t.toArray⟩] (J5.e.evTopic ⟨t.toArray⟩)
  change Code.wp _ _ _ _ (w5.setCells (w.heap.size + 2) 2 [.string ⟨t.toArray⟩])
  generalize w5.setCells (w.heap.size + 2) 2 [.string ⟨t.toArray⟩] = w6 at J6 ⊢
  have HTO := Lib.hid ht
  clear y2 z2 J4 J5 hr5 hg5 hst hst' hcv ht
  -- the Payload
  go_upto_region 6 with (go_at_call 47; refine (dblob_any _ bb cB L _ _ J6.o).mono ?_; rintro e w7 ⟨vp, p, rfl, hsp, hp, hr7, hg7⟩; obtain ⟨Ap, np, cp, rfl⟩ := hsp.sl.shape; have J7 := J6.call hg7 hr7; have y3 := ev_3 J7.e; have z3 := J7.e.frozen 3)
  have J8 := J7.sets 3 [.slice Ap np cp] (J7.e.evPl (.slice Ap np cp) p)
  have HPS := Lib.hid (show ∀ X, Below w.heap.size w X → Sl X (.slice Ap np cp) p from fun X hX => hsp.any J7.b hX hbb)
  change Code.wp _ _ _ _ (w7.setCells (w.heap.size + 2) 3 [.slice Ap np cp])
  generalize w7.setCells (w.heap.size + 2) 3 [.slice Ap np cp] = w8 at J8 ⊢
  have HP := Lib.hid hp
  clear y3 z3 J6 J7 hr7 hg7 hsp hp
  have hV0 : ({ ({ ({ knZ with id := d } : Ev) with topic := ⟨t.toArray⟩ } : Ev) with pl := .slice Ap np cp, P := p } : Ev).V.length = 16 := rfl
  -- the Past
  go_upto_region 7 with (first | (go_at_call 48; refine (dvec_any _ bb cB L _ _ J8.o).mono ?_; rintro e w9 ⟨V, rfl, hVl, hVt, hVV, hr9, hg9⟩; have J9 := J8.call hg9 hr9; have hth := ev_there J9.e hV0 V hVl; have hiv := uqs_info hVl; have hone := uqs_one V) | (refine wpList_store_mid rfl 27 _ _ rfl (w.heap.size + 2) 4 (uqs V) rfl rfl hth hiv hone ?_; try simp only [Act.put, List.setIfInBounds_toArray, List.set_cons_zero, List.set_cons_succ]))
  have J10 := J9.sets 4 (uqs V).toList (J9.e.evPast hV0 V hVl)
  change Code.wp _ _ _ _ (w9.setCells (w.heap.size + 2) 4 (uqs V).toList)
  generalize w9.setCells (w.heap.size + 2) 4 (uqs V).toList = w10 at J10 ⊢
  have HV := Lib.hid hVV
  clear J8 J9 hr9 hg9 hVV hth hiv hone
  have hV1 : ({ ({ ({ ({ knZ with id := d } : Ev) with topic := ⟨t.toArray⟩ } : Ev) with pl := .slice Ap np cp, P := p } : Ev) with V := V } : Ev).V.length = 16 := hVl
  obtain ⟨E0, hE0⟩ : ∃ E : Ev, E = ⟨d, ⟨t.toArray⟩, .slice Ap np cp, p, V, .slice none 0 0, []⟩ := ⟨_, rfl⟩
  change Dg w w10 bb cB L ⟨d, ⟨t.toArray⟩, .slice Ap np cp, p, V, .slice none 0 0, []⟩ _ at J10
  rw [← hE0] at J10
  have HE0 := Lib.hid hE0
  have hVE : E0.V.length = 16 := by rw [hE0]; exact hVl
  clear hV0 hV1 hE0
  -- how many
  go_upto_region 8 with (go_at_call 49; refine (dnum_any _ bb cB L _ _ J10.o).mono ?_; rintro e w11 ⟨n, rfl, hn1, hn2, hn3, hr11, hg11⟩; have J11 := J10.call hg11 hr11; have hwn : IntKind.i64.wrap (n : Int) = (n : Int) := (by rw [IntKind.wrap_i64]; omega))
  have HTT := Lib.hid (show tosO (left (vecO (left (blobO (left (blobO (left (dotO o0)))))))) = toO n (left (numO (left (vecO (left (blobO (left (blobO (left (dotO o0)))))))))) from by
    unfold tosO
    cases h : numO (left (vecO (left (blobO (left (blobO (left (dotO o0)))))))) with
    | none => simp only [left, Option.map_none]; rw [toO_none]
    | some p => obtain ⟨a, b⟩ := p; rw [hn1 _ h]; rfl)
  obtain ⟨oN, hoN⟩ : ∃ o, left (numO (left (vecO (left (blobO (left (blobO (left (dotO o0))))))))) = o := ⟨_, rfl⟩
  have htt := HTT.out
  rw [hoN] at J11 htt
  obtain ⟨oV, hoV⟩ : ∃ o, left (vecO (left (blobO (left (blobO (left (dotO o0))))))) = o := ⟨_, rfl⟩
  have hno := HNO.out
  have hyes := HYES.out
  rw [hoV] at htt hno hyes
  have HTT2 := Lib.hid htt
  have HNO2 := Lib.hid hno
  have HYES2 := Lib.hid (fun (T : List De) (h : left (tosO oV) = some []) (h5 : ∀ x, tosO oV = some x → T = x.1) => hyes d t p V T h HD.out HTO.out HP.out HV.out h5)
  clear HTT hoN hoV htt hno hyes HNO HYES hn1 hn2 J10 hr11 hg11
  obtain ⟨i0, hi, hz0, hz1, hz2⟩ := info_parts info_dest
  have hE00 : E0 = { E0 with to := .slice none 0 0, T := [] } := by rw [HE0.out]
  rw [hE00] at J11
  clear hE00
  go_wp2
  go_loopw [7] (fun z wr => ∃ (i : Nat) (acc : List De) (oi : Option (List UInt8)) (vT : Value), z = .int .i64 (i : Int) ∧ i ≤ n ∧ Dg w wr bb cB L { E0 with to := vT, T := acc } oi ∧ OwnE wr (w.heap.size + 3) vT acc ∧ acc.length = i ∧ toO n oN = cont acc (toO (n - i) oi)) (fun z _ => n - (intOf z).toNat)
  case atStart => exact ⟨0, [], oN, .slice none 0 0, rfl, Nat.zero_le _, J11, OwnE.nil, rfl, by rw [cont_nil]; rfl⟩
  case round =>
    clear J11
    obtain ⟨i, acc, oi, vT, rfl, hin, J, ho, hal, hinv⟩ := hrel
    obtain ⟨vb, vat, hblk⟩ := J.o.blk
    have cf : wr.cell? ⟨w.heap.size + 1, 2, none⟩ = some (.bool oi.isNone) := by rw [hblk.cell]; rfl
    have HI := Lib.hid hinv
    have HAL := Lib.hid hal
    have HV3 : Hid (({ E0 with to := vT, T := acc } : Ev).V.length = 16) := Lib.hid hVE
    obtain ⟨AT, nT, cT, rfl⟩ : ∃ A n c, vT = Value.slice A n c := ho.se.shape.elim fun A h => h.elim fun c h => ⟨A, _, c, h⟩
    clear hinv hal hblk
    by_cases hlt : i < n
    · cases oi with
      | none =>
        have XF : (∀ q, tosO oV = some q → acc = q.1) ∧ left (tosO oV) = (none : Option (List UInt8)) := by
          rw [HTT2.out, HI.out, toO_none]
          exact ⟨fun q hq => (by cases hq), rfl⟩
        rw [show (none : Option (List UInt8)).isNone = true from rfl] at cf
        have hOk : EvOk wr { E0 with to := .slice AT nT cT, T := acc } := ⟨by rw [HE0.out]; exact HPS.out wr J.b, ho.se, hVE, by rw [HE0.out]; exact hVt⟩
        have hEo : (evc { E0 with to := .slice AT nT cT, T := acc }).all (·.oneCell') = true := evc_one _ (by rw [HE0.out]; rfl) rfl
        have HPL : Hid (plain { E0 with to := .slice AT nT cT, T := acc } = (d, ⟨t.toArray⟩, p, V, acc)) := by rw [HE0.out]; exact Lib.hid rfl
        have HSLF : Hid (∀ X, Below w.heap.size w X → Sl X E0.pl E0.P) := Lib.hid (by rw [HE0.out]; exact HPS.out)
        have HTE : Hid (({ E0 with to := .slice AT nT cT, T := acc } : Ev).to = .slice AT nT cT ∧ ({ E0 with to := .slice AT nT cT, T := acc } : Ev).T = acc ∧ ({ E0 with to := .slice AT nT cT, T := acc } : Ev).pl = E0.pl ∧ ({ E0 with to := .slice AT nT cT, T := acc } : Ev).P = E0.P ∧ ({ E0 with to := .slice AT nT cT, T := acc } : Ev).V = E0.V) := Lib.hid ⟨rfl, rfl, rfl, rfl, rfl⟩
        have hV : ({ E0 with to := .slice AT nT cT, T := acc } : Ev).V.length = 16 := hVE
        have hVt3 : ∀ n ∈ E0.V, n < 18446744073709551616 := by rw [HE0.out]; exact hVt
        generalize ({ E0 with to := .slice AT nT cT, T := acc } : Ev) = E at J hOk hEo HPL HTE hV
        have hend := dend_any _ bb cB L (none : Option (List UInt8)) wr J.o
        have HBUZ := Lib.hid bu_z
        have hZo : (evc knZ).all (·.oneCell') = true := evc_one _ rfl rfl
        have HXF := Lib.hid XF
        clear XF
        by_cases hfin : (none : Option (List UInt8)) = some []
        · rw [if_pos hfin] at hend
          have HF := Lib.hid hfin
          clear hfin
          have HPE := Lib.hid (show evO L = some (plain E) by rw [HYES2.out acc (by rw [HXF.out.2]; exact HF.out) HXF.out.1, HPL.out])
          cases hEB : evB E
          · have HEB := Lib.hid hEB
            clear hEB
            go_wp2_with (first | (go_at_call 50; refine hend.mono ?_; rintro e wE ⟨rfl, hwE⟩; have hbE : Below wr.heap.size wr wE := (by obtain ⟨nq, rfl⟩ := hwE; exact below_drewN (Below.refl _ _) nq); have JE := J.below hbE; have hOkE := hOk.below hbE) | (refine wpList_load_mid_g (by rfl) 30 _ rfl (w.heap.size + 2) 0 rfl (evc E) _ (ev_all JE.e) Try.underlying30 rfl (evc_info hV) ?_; try simp only [Act.put, List.setIfInBounds_toArray, List.set_cons_zero, List.set_cons_succ]) | (go_at_call 11; refine (rmay_any E _ hOkE).mono ?_; rintro e wM ⟨rfl, hgM⟩; rw [HEB.out]; have JM := JE.below hgM.below) | (refine wpList_build_g 61 rfl (by rfl) 30 _ rfl (evc knZ) (Eq.trans (by kernel_rfl) HBUZ.out) ?_; try simp only [Act.put, List.setIfInBounds_toArray, List.set_cons_zero, List.set_cons_succ]) | (refine wpList_store_mid rfl 30 _ _ rfl w.heap.size 0 (evc knZ) rfl rfl (ev_thereAll JM.r rfl rfl) (evc_info rfl) hZo ?_; try simp only [Act.put, List.setIfInBounds_toArray, List.set_cons_zero, List.set_cons_succ]))
            have hF := JM.r.setRow (ds := evc knZ) (by first | rfl | (rw [evc_size rfl]; done) | (rw [evc_size hV]; rfl))
            have hgF := grown_setCells w.heap.size (evc knZ).toList 0 wM
            exact bodyPost_ret (v := .tuple #[.agg (evc knZ), .bool false]) (results_row_tmp rfl _ _ w.heap.size 30 (evc knZ) (0, 0) _ (.bool false) rfl rfl hF Try.underlying30 rfl (evc_info rfl)) rfl ⟨knZ, false, rfl, Below.only JM.b hgF (Nat.le_refl _) JM.b.size, knZ_ok _, .inr ⟨by unfold evOf; rw [HPE.out]; show (if plB (plain E) = true then some (plain E) else none) = none; rw [← evB_plain, HEB.out]; rfl, rfl, rfl⟩⟩
          · have HEB := Lib.hid hEB
            clear hEB
            go_wp2_with (first | (go_at_call 50; refine hend.mono ?_; rintro e wE ⟨rfl, hwE⟩; have hbE : Below wr.heap.size wr wE := (by obtain ⟨nq, rfl⟩ := hwE; exact below_drewN (Below.refl _ _) nq); have JE := J.below hbE; have hOkE := hOk.below hbE) | (refine wpList_load_mid_g (by rfl) 30 _ rfl (w.heap.size + 2) 0 rfl (evc E) _ (ev_all JE.e) Try.underlying30 rfl (evc_info hV) ?_; try simp only [Act.put, List.setIfInBounds_toArray, List.set_cons_zero, List.set_cons_succ]) | (refine wpList_load_mid_g (by rfl) 30 _ rfl (w.heap.size + 2) 0 rfl (evc E) _ (ev_all JM.e) Try.underlying30 rfl (evc_info hV) ?_; try simp only [Act.put, List.setIfInBounds_toArray, List.set_cons_zero, List.set_cons_succ]) | (go_at_call 11; refine (rmay_any E _ hOkE).mono ?_; rintro e wM ⟨rfl, hgM⟩; rw [HEB.out]; have JM := JE.below hgM.below) | (refine wpList_store_mid rfl 30 _ _ rfl w.heap.size 0 (evc E) rfl rfl (ev_thereAll JM.r rfl hV) (evc_info hV) hEo ?_; try simp only [Act.put, List.setIfInBounds_toArray, List.set_cons_zero, List.set_cons_succ]))
            have hF := JM.r.setRow (ds := evc E) (by first | rfl | (rw [evc_size hV]; done) | (rw [evc_size hV]; rfl))
            have hgF := grown_setCells w.heap.size (evc E).toList 0 wM
            have hbF := Below.only JM.b hgF (Nat.le_refl _) JM.b.size
            have hoM := ((ho.below hbE).below hgM.below).grown hgF (by omega)
            exact bodyPost_ret (v := .tuple #[.agg (evc E), .bool true]) (results_row_tmp rfl _ _ w.heap.size 30 (evc E) (0, 0) _ (.bool true) rfl rfl hF Try.underlying30 rfl (evc_info hV)) rfl ⟨E, true, rfl, hbF, ⟨by rw [HTE.out.2.2.1, HTE.out.2.2.2.1]; exact HSLF.out _ hbF, by rw [HTE.out.1, HTE.out.2.1]; exact hoM.se, hV, by rw [HTE.out.2.2.2.2]; exact hVt3⟩, .inl ⟨by unfold evOf; rw [HPE.out]; show (if plB (plain E) = true then some (plain E) else none) = some (plain E); rw [← evB_plain, HEB.out]; rfl, rfl⟩⟩
        · rw [if_neg hfin] at hend
          have HF := Lib.hid hfin
          clear hfin
          go_wp2_with (first | (go_at_call 50; refine hend.mono ?_; rintro e wE ⟨rfl, hwE⟩; have hbE : Below wr.heap.size wr wE := (by obtain ⟨nq, rfl⟩ := hwE; exact below_drewN (Below.refl _ _) nq); have JE := J.below hbE; have hOkE := hOk.below hbE) | (refine wpList_build_g 61 rfl (by rfl) 30 _ rfl (evc knZ) (Eq.trans (by kernel_rfl) HBUZ.out) ?_; try simp only [Act.put, List.setIfInBounds_toArray, List.set_cons_zero, List.set_cons_succ]) | (refine wpList_store_mid rfl 30 _ _ rfl w.heap.size 0 (evc knZ) rfl rfl (ev_thereAll JE.r rfl rfl) (evc_info rfl) hZo ?_; try simp only [Act.put, List.setIfInBounds_toArray, List.set_cons_zero, List.set_cons_succ]))
          have hF := JE.r.setRow (ds := evc knZ) (by first | rfl | (rw [evc_size rfl]; done) | (rw [evc_size hV]; rfl))
          have hgF := grown_setCells w.heap.size (evc knZ).toList 0 wE
          exact bodyPost_ret (v := .tuple #[.agg (evc knZ), .bool false]) (results_row_tmp rfl _ _ w.heap.size 30 (evc knZ) (0, 0) _ (.bool false) rfl rfl hF Try.underlying30 rfl (evc_info rfl)) rfl ⟨knZ, false, rfl, Below.only JE.b hgF (Nat.le_refl _) JE.b.size, knZ_ok _, .inr ⟨HNO2.out (by rw [HXF.out.2]; exact HF.out), rfl, rfl⟩⟩
      | some l =>
        rw [show (some l : Option (List UInt8)).isNone = false from rfl] at cf
        have HLT := Lib.hid hlt
        obtain ⟨m, hm⟩ : ∃ m, n - i = m + 1 := ⟨n - i - 1, by omega⟩
        have HMM := Lib.hid hm
        have HI2 := HI.out
        rw [hm] at HI2
        have HI3 := Lib.hid HI2
        clear hm HI2
        have klt : ∀ k, (Value.slice AT nT cT).ownBlock = some k → k < wr.heap.size := fun k hk => (ho.lt k hk).2
        have hT0 := Blk.new wr 55 #[.int .i64 0, .int .u64 0, .string ⟨#[]⟩]
        have hgt3 : w.heap.size + 3 ≤ wr.heap.size := by have := J.e.lt; omega
        have JA := J.below ((Below.refl _ _).alloc (Nat.le_refl _) (.cells #[.int .i64 0, .int .u64 0, .string ⟨#[]⟩] 55))
        have hoA := ho.below ((Below.refl _ _).alloc (Nat.le_refl _) (.cells #[.int .i64 0, .int .u64 0, .string ⟨#[]⟩] 55))
        go_upto_region 12 with fail
        generalize wr.alloc (.cells #[.int .i64 0, .int .u64 0, .string ⟨#[]⟩] 55) = wa at hT0 JA hoA ⊢
        obtain ⟨gt, hgt⟩ : ∃ g, g = wr.heap.size := ⟨_, rfl⟩
        rw [← hgt] at hT0 hgt3 klt ⊢
        clear hgt J ho cf
        go_upto_region 13 with (go_at_call 46; refine (ddot_any _ bb cB L _ _ JA.o).mono ?_; rintro e wb ⟨d2, rfl, hd2, hrb, hgb⟩; have JB := JA.call hgb hrb; have hTb := hT0.grown hgb (fun e => by injection e with e; omega); have hoB := hoA.grown hgb (by omega); have u0 : wb.cell? ⟨gt, 0, none⟩ = some (.int .i64 0) := (by rw [hTb.cell]; rfl); have u1 : wb.cell? ⟨gt, 1, none⟩ = some (.int .u64 0) := (by rw [hTb.cell]; rfl); have z0 := hTb.frozen 0; have z1 := hTb.frozen 1)
        have JC := JB.other hTb (by decide) hgt3 (grown_setCells gt [.int .i64 d2.1, .int .u64 (d2.2 : Int)] 0 wb)
        have hTc : Blk (wb.setCells gt 0 [.int .i64 d2.1, .int .u64 (d2.2 : Int)]) gt 55 #[.int .i64 d2.1, .int .u64 (d2.2 : Int), .string ⟨#[]⟩] := (hTb.set_ 0 _).set_ 1 _
        have hoC := hoB.keep fun k hk => (grown_setCells gt [.int .i64 d2.1, .int .u64 (d2.2 : Int)] 0 wb).block k (hoB.lt k hk).2 (fun e => by injection e with e; have := klt k hk; omega)
        change Code.wp _ _ _ _ (wb.setCells gt 0 [.int .i64 d2.1, .int .u64 (d2.2 : Int)])
        generalize wb.setCells gt 0 [.int .i64 d2.1, .int .u64 (d2.2 : Int)] = wc at JC hTc hoC ⊢
        have HD2 := Lib.hid hd2
        clear JA JB hT0 hTb hoA hoB u0 u1 z0 z1 hrb hgb hd2
        go_upto_region 14 with (go_at_call 47; refine (dblob_any _ bb cB L _ _ JC.o).mono ?_; rintro e wd ⟨vp2, p2, rfl, hsp2, hp2, hrd, hgd⟩; have hsp3 := hsp2.sl; obtain ⟨A3, n3, c3, rfl⟩ := hsp3.shape; have hcv := conv_any hsp3; have JD := JC.call hgd hrd; have hTd := hTc.grown hgd (fun e => by injection e with e; omega); have hoD := hoC.grown hgd (by omega); have u2 : wd.cell? ⟨gt, 2, none⟩ = some (.string ⟨#[]⟩) := (by rw [hTd.cell]; rfl); have z2 := hTd.frozen 2)
        have JE := JD.other hTd (by decide) hgt3 (grown_setCells gt [.string ⟨p2.toArray⟩] 2 wd)
        have hTe : Blk (wd.setCells gt 2 [.string ⟨p2.toArray⟩]) gt 55 #[.int .i64 d2.1, .int .u64 (d2.2 : Int), .string ⟨p2.toArray⟩] := hTd.set_ 2 _
        have hoE := hoD.keep fun k hk => (grown_setCells gt [.string ⟨p2.toArray⟩] 2 wd).block k (hoD.lt k hk).2 (fun e => by injection e with e; have := klt k hk; omega)
        change Code.wp _ _ _ _ (wd.setCells gt 2 [.string ⟨p2.toArray⟩])
        generalize wd.setCells gt 2 [.string ⟨p2.toArray⟩] = we at JE hTe hoE ⊢
        have HP2 := Lib.hid hp2
        clear JC JD hTc hTd hoC hoD u2 z2 hrd hgd hp2 hsp2 hsp3 hcv
        have y20 := ev_20 JE.e HV3.out
        have u0 : we.cell? ⟨gt, 0, none⟩ = some (.int .i64 d2.1) := by rw [hTe.cell]; rfl
        have u1 : we.cell? ⟨gt, 1, none⟩ = some (.int .u64 (d2.2 : Int)) := by rw [hTe.cell]; rfl
        have u2 : we.cell? ⟨gt, 2, none⟩ = some (.string ⟨p2.toArray⟩) := by rw [hTe.cell]; rfl
        have hB5 := Blk.new we 55 #[.int .i64 d2.1, .int .u64 (d2.2 : Int), .string ⟨p2.toArray⟩]
        have JF := JE.below ((Below.refl _ _).alloc (Nat.le_refl _) (.cells #[.int .i64 d2.1, .int .u64 (d2.2 : Int), .string ⟨p2.toArray⟩] 55))
        have hoF := hoE.below ((Below.refl _ _).alloc (Nat.le_refl _) (.cells #[.int .i64 d2.1, .int .u64 (d2.2 : Int), .string ⟨p2.toArray⟩] 55))
        have hszF : w.heap.size + 3 ≤ (we.alloc (.cells #[.int .i64 d2.1, .int .u64 (d2.2 : Int), .string ⟨p2.toArray⟩] 55)).heap.size := by have := hTe.lt; simp; omega
        have hlF : acc.length + [((d2, ⟨p2.toArray⟩) : De)].length ≤ 1000000 := by have := HAL.out; simp; omega
        go_upto_region 10 with (at_builtin; refine wpList_append_dests _ rfl _ _ 28 rfl (w.heap.size + 3) i0 Try.underlying28 hi hz0 hz1 hz2 (.slice AT nT cT) acc rfl hoF _ [(d2, ⟨p2.toArray⟩)] rfl (Se.one (d2, ⟨p2.toArray⟩) hB5 1 (Nat.le_refl _)) (by simp) hlF hszF ?_; intro v5 w5 ho5 hg5; obtain ⟨A5, n5, c5, rfl⟩ : ∃ A n c, v5 = Value.slice A n c := ho5.se.shape.elim fun A h => h.elim fun c h => ⟨A, _, c, h⟩; have JG := JF.row hoF hg5; have t20 := ev_20 JG.e HV3.out; have s20 := JG.e.frozen 20)
        have JH := JG.sets 20 [.slice A5 n5 c5] (JG.e.evTo HV3.out (.slice A5 n5 c5) (acc ++ [(d2, ⟨p2.toArray⟩)]))
        have hoH := ho5.grown (grown_setCells (w.heap.size + 2) [.slice A5 n5 c5] 20 w5) (by omega)
        change Code.wp _ _ _ _ (w5.setCells (w.heap.size + 2) 20 [.slice A5 n5 c5])
        generalize w5.setCells (w.heap.size + 2) 20 [.slice A5 n5 c5] = w6 at JH hoH ⊢
        clear JE JF JG hTe hoE hoF ho5 hg5 hB5 t20 s20 y20 u0 u1 u2
        go_wp2
        refine ⟨⟨i + 1, acc ++ [(d2, ⟨p2.toArray⟩)], left (blobO (left (dotO (some l)))), .slice A5 n5 c5, by go_num, by have := HLT.out; omega, JH, hoH, by have := HAL.out; simp; omega, ?_⟩, by simp [intOf]; have := HLT.out; omega⟩
        rw [HI3.out, show n - (i + 1) = m by have := HMM.out; omega]
        cases hob : left (blobO (left (dotO (some l)))) with
        | none => rw [toO_fail hob, toO_none]; rfl
        | some l2 => exact toO_step acc hob HD2.out HP2.out
    · obtain rfl : i = n := by omega
      have XF : (∀ q, tosO oV = some q → acc = q.1) ∧ left (tosO oV) = oi := by
        rw [HTT2.out, HI.out, Nat.sub_self]
        cases oi with
        | none => exact ⟨fun q hq => (by cases hq), rfl⟩
        | some l => exact ⟨fun q hq => (by simp [toO, cont] at hq; rw [← hq]), by simp [toO, cont, left]⟩
      have hOk : EvOk wr { E0 with to := .slice AT nT cT, T := acc } := ⟨by rw [HE0.out]; exact HPS.out wr J.b, ho.se, hVE, by rw [HE0.out]; exact hVt⟩
      have hEo : (evc { E0 with to := .slice AT nT cT, T := acc }).all (·.oneCell') = true := evc_one _ (by rw [HE0.out]; rfl) rfl
      have HPL : Hid (plain { E0 with to := .slice AT nT cT, T := acc } = (d, ⟨t.toArray⟩, p, V, acc)) := by rw [HE0.out]; exact Lib.hid rfl
      have HSLF : Hid (∀ X, Below w.heap.size w X → Sl X E0.pl E0.P) := Lib.hid (by rw [HE0.out]; exact HPS.out)
      have HTE : Hid (({ E0 with to := .slice AT nT cT, T := acc } : Ev).to = .slice AT nT cT ∧ ({ E0 with to := .slice AT nT cT, T := acc } : Ev).T = acc ∧ ({ E0 with to := .slice AT nT cT, T := acc } : Ev).pl = E0.pl ∧ ({ E0 with to := .slice AT nT cT, T := acc } : Ev).P = E0.P ∧ ({ E0 with to := .slice AT nT cT, T := acc } : Ev).V = E0.V) := Lib.hid ⟨rfl, rfl, rfl, rfl, rfl⟩
      have hV : ({ E0 with to := .slice AT nT cT, T := acc } : Ev).V.length = 16 := hVE
      have hVt3 : ∀ n ∈ E0.V, n < 18446744073709551616 := by rw [HE0.out]; exact hVt
      generalize ({ E0 with to := .slice AT nT cT, T := acc } : Ev) = E at J hOk hEo HPL HTE hV
      have hend := dend_any _ bb cB L oi wr J.o
      have HBUZ := Lib.hid bu_z
      have hZo : (evc knZ).all (·.oneCell') = true := evc_one _ rfl rfl
      have HXF := Lib.hid XF
      clear XF
      by_cases hfin : oi = some []
      · rw [if_pos hfin] at hend
        have HF := Lib.hid hfin
        clear hfin
        have HPE := Lib.hid (show evO L = some (plain E) by rw [HYES2.out acc (by rw [HXF.out.2]; exact HF.out) HXF.out.1, HPL.out])
        cases hEB : evB E
        · have HEB := Lib.hid hEB
          clear hEB
          go_wp2_with (first | (go_at_call 50; refine hend.mono ?_; rintro e wE ⟨rfl, hwE⟩; have hbE : Below wr.heap.size wr wE := (by obtain ⟨nq, rfl⟩ := hwE; exact below_drewN (Below.refl _ _) nq); have JE := J.below hbE; have hOkE := hOk.below hbE) | (refine wpList_load_mid_g (by rfl) 30 _ rfl (w.heap.size + 2) 0 rfl (evc E) _ (ev_all JE.e) Try.underlying30 rfl (evc_info hV) ?_; try simp only [Act.put, List.setIfInBounds_toArray, List.set_cons_zero, List.set_cons_succ]) | (go_at_call 11; refine (rmay_any E _ hOkE).mono ?_; rintro e wM ⟨rfl, hgM⟩; rw [HEB.out]; have JM := JE.below hgM.below) | (refine wpList_build_g 61 rfl (by rfl) 30 _ rfl (evc knZ) (Eq.trans (by kernel_rfl) HBUZ.out) ?_; try simp only [Act.put, List.setIfInBounds_toArray, List.set_cons_zero, List.set_cons_succ]) | (refine wpList_store_mid rfl 30 _ _ rfl w.heap.size 0 (evc knZ) rfl rfl (ev_thereAll JM.r rfl rfl) (evc_info rfl) hZo ?_; try simp only [Act.put, List.setIfInBounds_toArray, List.set_cons_zero, List.set_cons_succ]))
          have hF := JM.r.setRow (ds := evc knZ) (by first | rfl | (rw [evc_size rfl]; done) | (rw [evc_size hV]; rfl))
          have hgF := grown_setCells w.heap.size (evc knZ).toList 0 wM
          exact bodyPost_ret (v := .tuple #[.agg (evc knZ), .bool false]) (results_row_tmp rfl _ _ w.heap.size 30 (evc knZ) (0, 0) _ (.bool false) rfl rfl hF Try.underlying30 rfl (evc_info rfl)) rfl ⟨knZ, false, rfl, Below.only JM.b hgF (Nat.le_refl _) JM.b.size, knZ_ok _, .inr ⟨by unfold evOf; rw [HPE.out]; show (if plB (plain E) = true then some (plain E) else none) = none; rw [← evB_plain, HEB.out]; rfl, rfl, rfl⟩⟩
        · have HEB := Lib.hid hEB
          clear hEB
          go_wp2_with (first | (go_at_call 50; refine hend.mono ?_; rintro e wE ⟨rfl, hwE⟩; have hbE : Below wr.heap.size wr wE := (by obtain ⟨nq, rfl⟩ := hwE; exact below_drewN (Below.refl _ _) nq); have JE := J.below hbE; have hOkE := hOk.below hbE) | (refine wpList_load_mid_g (by rfl) 30 _ rfl (w.heap.size + 2) 0 rfl (evc E) _ (ev_all JE.e) Try.underlying30 rfl (evc_info hV) ?_; try simp only [Act.put, List.setIfInBounds_toArray, List.set_cons_zero, List.set_cons_succ]) | (refine wpList_load_mid_g (by rfl) 30 _ rfl (w.heap.size + 2) 0 rfl (evc E) _ (ev_all JM.e) Try.underlying30 rfl (evc_info hV) ?_; try simp only [Act.put, List.setIfInBounds_toArray, List.set_cons_zero, List.set_cons_succ]) | (go_at_call 11; refine (rmay_any E _ hOkE).mono ?_; rintro e wM ⟨rfl, hgM⟩; rw [HEB.out]; have JM := JE.below hgM.below) | (refine wpList_store_mid rfl 30 _ _ rfl w.heap.size 0 (evc E) rfl rfl (ev_thereAll JM.r rfl hV) (evc_info hV) hEo ?_; try simp only [Act.put, List.setIfInBounds_toArray, List.set_cons_zero, List.set_cons_succ]))
          have hF := JM.r.setRow (ds := evc E) (by first | rfl | (rw [evc_size hV]; done) | (rw [evc_size hV]; rfl))
          have hgF := grown_setCells w.heap.size (evc E).toList 0 wM
          have hbF := Below.only JM.b hgF (Nat.le_refl _) JM.b.size
          have hoM := ((ho.below hbE).below hgM.below).grown hgF (by omega)
          exact bodyPost_ret (v := .tuple #[.agg (evc E), .bool true]) (results_row_tmp rfl _ _ w.heap.size 30 (evc E) (0, 0) _ (.bool true) rfl rfl hF Try.underlying30 rfl (evc_info hV)) rfl ⟨E, true, rfl, hbF, ⟨by rw [HTE.out.2.2.1, HTE.out.2.2.2.1]; exact HSLF.out _ hbF, by rw [HTE.out.1, HTE.out.2.1]; exact hoM.se, hV, by rw [HTE.out.2.2.2.2]; exact hVt3⟩, .inl ⟨by unfold evOf; rw [HPE.out]; show (if plB (plain E) = true then some (plain E) else none) = some (plain E); rw [← evB_plain, HEB.out]; rfl, rfl⟩⟩
      · rw [if_neg hfin] at hend
        have HF := Lib.hid hfin
        clear hfin
        go_wp2_with (first | (go_at_call 50; refine hend.mono ?_; rintro e wE ⟨rfl, hwE⟩; have hbE : Below wr.heap.size wr wE := (by obtain ⟨nq, rfl⟩ := hwE; exact below_drewN (Below.refl _ _) nq); have JE := J.below hbE; have hOkE := hOk.below hbE) | (refine wpList_build_g 61 rfl (by rfl) 30 _ rfl (evc knZ) (Eq.trans (by kernel_rfl) HBUZ.out) ?_; try simp only [Act.put, List.setIfInBounds_toArray, List.set_cons_zero, List.set_cons_succ]) | (refine wpList_store_mid rfl 30 _ _ rfl w.heap.size 0 (evc knZ) rfl rfl (ev_thereAll JE.r rfl rfl) (evc_info rfl) hZo ?_; try simp only [Act.put, List.setIfInBounds_toArray, List.set_cons_zero, List.set_cons_succ]))
        have hF := JE.r.setRow (ds := evc knZ) (by first | rfl | (rw [evc_size rfl]; done) | (rw [evc_size hV]; rfl))
        have hgF := grown_setCells w.heap.size (evc knZ).toList 0 wE
        exact bodyPost_ret (v := .tuple #[.agg (evc knZ), .bool false]) (results_row_tmp rfl _ _ w.heap.size 30 (evc knZ) (0, 0) _ (.bool false) rfl rfl hF Try.underlying30 rfl (evc_info rfl)) rfl ⟨knZ, false, rfl, Below.only JE.b hgF (Nat.le_refl _) JE.b.size, knZ_ok _, .inr ⟨HNO2.out (by rw [HXF.out.2]; exact HF.out), rfl, rfl⟩⟩
end Go.Proofs.Ytigepbklpiilpaa

/-
  The document's Append in all its ways; its Copy.
-/
import Derived.Test.YtdbkhigocjmfoaaDskRefV
namespace Go.Proofs.Ytdbkhigocjmfoaa
open Go.RowKit
open DskM
set_option linter.unusedVariables false
set_option linter.unusedSimpArgs false
set_option maxRecDepth 20000
attribute [local go_sem] Oper.semAt_some
section
variable {w w' : World} {q : Nat} {v : Value} {S : Ds} {R : List Fr}
theorem refAppend_any (h : Rd w q v S R) (hf : Fit S (pl R)) (s : ByteArray) (bv : Value) (b : List UInt8) (hs : Sl w bv b) {r : Int × Ds × List Fp} (hr : appendS S (pl R) s.data.toList b = r) :
    Calls Try.prog 41 #[.pointer (some ⟨q, 0, none⟩), .string s, bv] w (RRes w q v R r) := by
  cases hm : mayB s.data.toList with
  | false => exact refApp_bad h hf s bv b hs hm hr
  | true =>
    by_cases hno : S.cap < totalP (pl R) + b.length
    · cases hi : isP (pl R) s.data.toList with
      | false => exact refApp_full1 h hf s bv b hs hm hi hno hr
      | true => exact refApp_full2 h hf s bv b hs hm hi hno hr
    · cases hi : isP (pl R) s.data.toList with
      | false =>
        by_cases h64 : R.length = 64
        · exact refApp_full3 h hf s bv b hs hm hi hno h64 hr
        · exact refApp_new h hf s bv b hs hm hi hno h64 hr
      | true => exact refApp_there h hf s bv b hs hm hi hno hr
theorem wpList_append_files {P : Program} (w : World) {ops : Array Oper} {rest : List Oper} {o : Oper} {a : Act} {Q : Exit → Act → World → Prop} (hgd : o.guard = none) (s x : Operand) (t : TypeId)
    (ho : o.op = .call { callee := .builtin .append, args := #[s, x], argTypes := #[t, t] })
    (base : Nat) (i : TypeInfo) (ht : P.underlying t = some (.slice 73)) (hi : P.info? 73 = some i) (hz : i.zero = some (.agg #[.string ⟨#[]⟩, .slice none 0 0, .int .i64 0]))
    (hsize : i.size = 3) (hby : i.bytes = 48) (v : Value) (l : List Fr) (hs : a.eval s = v) (hown : OwnF w base v l)
    (v2 : Value) (m : List Fr) (hx : a.eval x = v2) (hm : SlF w v2 m) (hone : ∀ f ∈ m, f.v.oneCell' = true) (hlen : l.length + m.length ≤ 1000000) (hbase : base ≤ w.heap.size)
    (h : ∀ v' w', OwnF w' base v' (l ++ m) → w.grownBy w' v.ownBlock → (v'.ownBlock = v.ownBlock ∨ v'.ownBlock = some w.heap.size) → wpList P ops Q rest (a.put o.dst v') w') : wpList P ops Q (o :: rest) a w := by
  refine wpList_plain hgd fun K hK => ?_
  obtain ⟨v', w', hr, h2, h3, h4⟩ := run_append_files (P := P) w base t o.type i ht hi hz hsize hby v l hown v2 m hm hone hlen hbase
  unfold Oper.wp execOp
  simp only [ho, resolve, invoke, builtin, Sem.run_bind, Sem.run_pure, Result.andThen_ok, List.map_toArray, List.map_cons, List.map_nil, hs, hx, hr]
  exact hK _ _ (h v' w' h2 h3 h4)
set_option maxHeartbeats 4000000 in
theorem refCopy_any (h : Rd w q v S R) (hl : R.length ≤ 64) :
    Calls Try.prog 14 #[.pointer (some ⟨q, 0, none⟩)] w fun e w' => ∃ q' v', e = .returned (.pointer (some ⟨q', 0, none⟩)) ∧ Rd w' q' v' S R ∧ Below w.heap.size w w' ∧ w.heap.size ≤ q' ∧ ∀ i, v'.ownBlock = some i → w.heap.size ≤ i := by
  obtain ⟨i0, hif, hz0, hz1, hz2⟩ := info_file'
  obtain ⟨A, c, rfl, hc1, hc2⟩ := h.row.shape
  have q0 := h.c0
  have q1 := h.c1
  have q2 := h.c2
  have q3 := h.c3
  have q4 := h.c4
  have hb : Below w.heap.size w (w.alloc (.cells #[.slice A R.length c, .int .i64 (S.cap : Int), .int .i64 S.fuse, .bool S.dead, .int .i64 (S.wr : Int)] 33)) := al1 w _
  have q0' := (h.below hb).c0
  have hB1 := Blk.new w 33 (rdc (.slice A R.length c) S)
  have HB1 := Lib.hid hB1
  have hsl := (h.below hb).row.sl
  have HSL := Lib.hid hsl
  have H := Lib.hid h
  have HL := Lib.hid hl
  have HB := Lib.hid hb
  have HONE := Lib.hid h.one
  clear h hl hb hsl hB1
  obtain ⟨W1, hW1⟩ : ∃ W1, W1 = w.alloc (.cells #[.slice A R.length c, .int .i64 (S.cap : Int), .int .i64 S.fuse, .bool S.dead, .int .i64 (S.wr : Int)] 33) := ⟨_, rfl⟩
  have HW1 := Lib.hid hW1
  have hsz : W1.heap.size = w.heap.size + 1 := by rw [hW1]; simp
  have HSZ := Lib.hid hsz
  clear hW1 hsz
  go_enter Try.func14, Try.ntmps14
  go_wp2_with (at_builtin; (rw [← HW1.out]; refine wpList_append_files _ rfl _ _ 31 rfl 0 i0 Try.underlying31 hif hz0 hz1 hz2 (.slice none 0 0) [] rfl OwnF.nil _ R rfl (by rw [HW1.out]; exact HSL.out) HONE.out (by have := HL.out; simp; omega) (Nat.zero_le _) ?_))
  intro v2 W2 ho2 hg2 hl2
  have ho2 : OwnF W2 0 v2 R := ho2
  have hb2 : Below W1.heap.size W1 W2 := (Below.refl _ _).grown hg2 (Nat.le_refl _) (fun i hi => by cases hi)
  have hf2 : ∀ i, v2.ownBlock = some i → W1.heap.size ≤ i := fun i hi => by
    rcases hl2 with e | e
    · rw [e] at hi; cases hi
    · rw [e] at hi; cases hi; exact Nat.le_refl _
  have hbk : Blk W2 w.heap.size 33 (rdc (.slice A R.length c) S) := (show Blk W1 _ _ _ by rw [HW1.out]; exact HB1.out).below hb2 (by have := HSZ.out; omega)
  have fz := hbk.frozen 0
  have fc : W2.cell? ⟨w.heap.size, 0, none⟩ = some (.slice A R.length c) := by rw [hbk.cell]; rfl
  have hbw : Below w.heap.size w W1 := by rw [HW1.out]; exact HB.out
  have hbw2 := hbw.trans (hb2.mono hbw.size)
  have hk : Keep (fun i => i = w.heap.size) W2 (W2.setCell ⟨w.heap.size, 0, none⟩ v2) := Keep.setCell _ _ _ rfl
  have hR : Rd (W2.setCell ⟨w.heap.size, 0, none⟩ v2) w.heap.size v2 S R := ⟨hbk.set_ 0 _, ho2.kept hk (fun i hi e => by have := hf2 i hi; have := HSZ.out; omega), fun f hf => ((H.out.below hbw2).byt f hf).kept hk (fun i hi e => by have := ((H.out.byt f hf).lt i hi).2; omega)⟩
  have HR := Lib.hid (And.intro hR (And.intro (hbw2.setCell (p := ⟨w.heap.size, 0, none⟩) (Nat.le_refl _) v2) (And.intro (Nat.le_refl w.heap.size) (fun i hi => by have := hf2 i hi; have := HSZ.out; omega : ∀ i, v2.ownBlock = some i → w.heap.size ≤ i))))
  obtain ⟨A2, n2, c2, hv2⟩ : ∃ A n c, v2 = .slice A n c := by obtain ⟨A, c, e, _⟩ := ho2.shape; exact ⟨A, _, c, e⟩
  subst hv2
  clear ho2 hg2 hl2 hb2 hf2 hbk hbw hbw2 hk hR
  go_wp2_with fail
  go_ret
  exact ⟨_, _, rfl, HR.out⟩
end
end Go.Proofs.Ytdbkhigocjmfoaa

/-
  The document's Rename.
-/
namespace Go.Proofs.Ytdbkhigocjmfoaa
open Go.RowKit
open DskM
set_option linter.unusedVariables false
set_option linter.unusedSimpArgs false
set_option maxRecDepth 20000
attribute [local go_sem] Oper.semAt_some
section
variable {w w' : World} {q : Nat} {v : Value} {S : Ds} {R : List Fr}
theorem Rd.fileIs {g n c : Nat} (h : Rd w q (.slice (some ⟨g, 0, none⟩) n c) S R) {k : Nat} (hk : k < R.length) {f : Fr} (hf : R[k] = f) : ∃ A1 c1, f.v = .slice A1 f.bs.length c1 ∧ f.bs.length ≤ c1 ∧ w.cell? ⟨q, 0, none⟩ = some (.slice (some ⟨g, 0, none⟩) R.length c) ∧
    w.cell? ⟨g, k * 3, none⟩ = some (.string ⟨f.nm.toArray⟩) ∧ w.cell? ⟨g, k * 3 + 1, none⟩ = some (.slice A1 f.bs.length c1) ∧ w.cell? ⟨g, k * 3 + 2, none⟩ = some (.int .i64 (f.la : Int)) ∧ ∀ i, w.frozen? ⟨g, i, none⟩ = false := by
  subst hf
  exact h.fileAt hk
theorem RFoot.newv {v' : Value} {R' : List Fr} {B : Nat} (hv : ∀ i, v'.ownBlock = some i → v.ownBlock = some i ∨ B ≤ i) (hR : ∀ f ∈ R', ∃ f' ∈ R, f'.v = f.v) : ∀ i, RFoot q v' R' i → RFoot q v R i ∨ B ≤ i := by
  rintro i (h | h | ⟨x, hx, hi⟩)
  · exact .inl (.inl h)
  · exact (hv i h).imp (fun h => .inr (.inl h)) id
  · obtain ⟨f', h1, h2⟩ := hR x hx
    exact .inl (.inr (.inr ⟨f', h1, by rw [h2]; exact hi⟩))
/-- A name taken away and put again. -/
theorem ins_del_same {F : List Fp} (hr : RiseP F) {n : Nm} (hi : isP F n = true) {k : Nat} (hp : posP F n = k) (hk : k < F.length) : insP (n, F[k].2) (delP (delP F n) n) = F := by
  subst hp
  obtain ⟨hk', e1, _⟩ := find_some_pos hr hi
  obtain ⟨p1, p2⟩ := pos_del hr n
  have hn : ∀ y ∈ delP F n, y.1 ≠ n := fun y hy => by unfold delP at hy; have := (List.mem_filter.1 hy).2; simpa using this
  rw [del_same hn]
  have := ins_pos (hr.del n) (n, F[posP F n].2) p2
  rw [this]
  show (delP F n).take (posP (delP F n) n) ++ [(n, F[posP F n].2)] ++ (delP F n).drop (posP (delP F n) n) = F
  rw [p1, del_pos hr n hi]
  have hl : (F.take (posP F n)).length = posP F n := by rw [List.length_take]; omega
  rw [List.take_left' hl, List.drop_left' hl]
  have e : (n, F[posP F n].2) = F[posP F n] := Prod.ext e1.symm rfl
  rw [e]
  have h1 : F.take (posP F n) ++ [F[posP F n]] = F.take (posP F n + 1) := List.take_append_getElem hk'
  rw [h1, List.take_append_drop]
set_option maxHeartbeats 8000000 in
theorem rename_ref (h : Rd w q v S R) (hf : Fit S (pl R)) (s t : ByteArray) {r : Int × Ds × List Fp} (hr : renameS S (pl R) s.data.toList t.data.toList = r) :
    Calls Try.prog 44 #[.pointer (some ⟨q, 0, none⟩), .string s, .string t] w (RRes w q v R r) := by
  have hfo : Try.prog.follows .mixedOrders = true := by kernel_rfl
  have hl : R.length ≤ 64 := by have := hf.few; rw [pl_len] at this; exact this
  have hfi := find_ref h hl s
  have HMT := Lib.hid (fun W => refMay_any t W)
  rcases find_cases hf.rise s.data.toList with ⟨hm, e2, e1⟩ | ⟨hm, hn, hi, e2, e1⟩ | ⟨hm, k, hk, hp, hnm, hn, hi, e2, e1⟩
  · have HR := Lib.hid (show r = (2, S, pl R) by rw [← hr]; unfold renameS; rw [if_neg (fun h => absurd h.1 (by rw [hm]; simp))])
    have H := Lib.hid h
    rw [e1, e2] at hfi
    have HFI := Lib.hid hfi
    clear h hf hm hr e1 e2 hfi
    go_enter Try.func44, Try.ntmps44
    go_wp2_with fail
    refine HFI.out.mono ?_
    rintro e w1 ⟨rfl, hb1⟩
    go_wp2
    go_ret
    rw [HR.out]; exact RRes.same H.out hb1 _
  · rw [e1, e2] at hfi
    have HFI := Lib.hid hfi
    have H := Lib.hid h
    cases ht : mayB t.data.toList with
    | false =>
      have HTM := Lib.hid ht
      have HR := Lib.hid (show r = (2, S, pl R) by rw [← hr]; unfold renameS; rw [if_neg (fun h => absurd h.2 (by rw [ht]; simp))])
      clear h hf hm hr e1 e2 hn hi hfi ht
      go_enter Try.func44, Try.ntmps44
      go_wp2_with fail
      refine HFI.out.mono ?_
      rintro e w1 ⟨rfl, hb1⟩
      have HB1 := Lib.hid hb1
      clear hb1 HFI
      go_wp2_with fail
      have hmt := HMT.out w1
      rw [HTM.out] at hmt
      refine hmt.mono ?_
      rintro e w1b ⟨rfl, hb1⟩
      have HB1b := Lib.hid (HB1.out.trans (hb1.mono HB1.out.size))
      clear hb1 hmt
      go_wp2
      go_ret
      rw [HR.out]; exact RRes.same H.out HB1b.out _
    | true =>
      have HTM := Lib.hid ht
      have HR := Lib.hid (show r = (6, S, pl R) by rw [← hr]; unfold renameS; rw [if_pos ⟨hm, ht⟩, hn])
      clear h hf hm hr e1 e2 hn hi hfi ht
      go_enter Try.func44, Try.ntmps44
      go_wp2_with fail
      refine HFI.out.mono ?_
      rintro e w1 ⟨rfl, hb1⟩
      have HB1 := Lib.hid hb1
      clear hb1 HFI
      go_wp2_with fail
      have hmt := HMT.out w1
      rw [HTM.out] at hmt
      refine hmt.mono ?_
      rintro e w1b ⟨rfl, hb1⟩
      have HB1b := Lib.hid (HB1.out.trans (hb1.mono HB1.out.size))
      clear hb1 hmt
      go_wp2
      go_ret
      rw [HR.out]; exact RRes.same H.out HB1b.out _
  · rw [e1, e2] at hfi
    have HFI := Lib.hid hfi
    have H := Lib.hid h
    cases ht : mayB t.data.toList with
    | false =>
      have HTM := Lib.hid ht
      have HR := Lib.hid (show r = (2, S, pl R) by rw [← hr]; unfold renameS; rw [if_neg (fun h => absurd h.2 (by rw [ht]; simp))])
      clear h hf hm hr e1 e2 hn hi hp hnm hfi ht
      go_enter Try.func44, Try.ntmps44
      go_wp2_with fail
      refine HFI.out.mono ?_
      rintro e w1 ⟨rfl, hb1⟩
      have HB1 := Lib.hid hb1
      clear hb1 HFI
      go_wp2_with fail
      have hmt := HMT.out w1
      rw [HTM.out] at hmt
      refine hmt.mono ?_
      rintro e w1b ⟨rfl, hb1⟩
      have HB1b := Lib.hid (HB1.out.trans (hb1.mono HB1.out.size))
      clear hb1 hmt
      go_wp2
      go_ret
      rw [HR.out]; exact RRes.same H.out HB1b.out _
    | true =>
      have HTM := Lib.hid ht
      obtain ⟨f0, hf0⟩ : ∃ f0, R[k] = f0 := ⟨_, rfl⟩
      have HG0 := Lib.hid hf0
      have HF0 := Lib.hid (show f0 ∈ R from hf0 ▸ List.getElem_mem hk)
      have hn0 : findP (pl R) s.data.toList = some f0.p := hn.trans (congrArg (fun x => some (Fr.p x)) hf0)
      have HR := Lib.hid (show r = ((if wOk S = true then 0 else 8), wS S, if wOk S = true then insP (t.data.toList, f0.bs, f0.la) (delP (delP (pl R) s.data.toList) t.data.toList) else if wLast S = true then pl R else pl R) by rw [← hr, ← writeS_w]; unfold renameS; rw [if_pos ⟨hm, ht⟩, hn0]; rfl)
      obtain ⟨g0, c0, hv0, hc1, hc2, _, _⟩ := h.row.form (by omega)
      have hkI : (k : Int) < (R.length : Int) := by omega
      have hk0 : (0 : Int) ≤ (k : Int) := by omega
      have h64 : (k : Int) < 64 := by omega
      have HF := Lib.hid hf
      have HK := Lib.hid hk
      have HI := Lib.hid (And.intro hi (And.intro hp (And.intro hnm hn)))
      have HL := Lib.hid hl
      have HV0 := Lib.hid hv0
      have HKB := Lib.hid (show ∀ W, Keep (fun i => i = q) w W → Own W 0 5 f0.v f0.bs from fun W hW => (h.byt _ HF0.out).kept hW (fun i hi e => (h.bytq HF0.out i hi).1 e))
      have HDR := Lib.hid (fun W (v : Value) (S2 : Ds) (T : List Fr) (hW : Rd W q v S2 T) (hl : T.length ≤ 64) (j : Nat) (hj : j < T.length) => drop_ref hW hl j hj)
      have HAT := Lib.hid (fun W (v : Value) (S2 : Ds) (T : List Fr) (hW : Rd W q v S2 T) (hl : T.length ≤ 64) => at_any hW hl t)
      obtain ⟨i0, hif, hz0, hz1, hz2⟩ := info_file'
      clear h hf hm hr e1 e2 hn hi hp hnm hfi ht hl hv0
      go_enter Try.func44, Try.ntmps44
      go_wp2_with fail
      refine HFI.out.mono ?_
      rintro e w1 ⟨rfl, hb1⟩
      have HB1 := Lib.hid hb1
      clear hb1 HFI
      go_wp2_with fail
      have hmt := HMT.out w1
      rw [HTM.out] at hmt
      refine hmt.mono ?_
      rintro e w1b ⟨rfl, hb1⟩
      have HB1b := Lib.hid (HB1.out.trans (hb1.mono HB1.out.size))
      clear hb1 hmt
      have hwr := write_ref (H.out.below HB1b.out) HF.out
      cases hwo : wOk S with
      | true =>
        rw [hwo] at hwr HR
        rw [if_pos rfl, if_pos rfl] at HR
        have HWR := Lib.hid hwr
        clear hwr hwo
        by_cases hst : s = t
        · subst hst
          have hsb : (s.toList == s.toList) = true := by rw [beq_iff_eq]
          go_wp2_with fail
          refine HWR.out.mono ?_
          rintro e w2 ⟨rfl, h2, k2⟩
          have H2 := Lib.hid h2
          have HK2 := Lib.hid (trans_q (Keep.of_below (S := fun i => i = q) HB1b.out) k2)
          clear h2 k2 HWR
          go_wp2_with fail
          refine (done_ref _ _).mono ?_
          rintro e wd ⟨rfl, rfl⟩
          go_wp2
          go_ret
          rw [HR.out]
          have e := ins_del_same HF.out.rise HI.out.1 HI.out.2.1 (by rw [pl_len]; exact HK.out)
          rw [show insP (s.data.toList, f0.bs, f0.la) (delP (delP (pl R) s.data.toList) s.data.toList) = pl R from by have e9 := congrArg Fr.p HG0.out; rw [pl_get] at e; have e8 : (R[k].p).2 = (f0.p).2 := congrArg Prod.snd e9; exact (congrArg (fun z => insP (s.data.toList, z) (delP (delP (pl R) s.data.toList) s.data.toList)) e8.symm).trans e]
          exact RRes.num H2.out HK2.out 0
        · have hsb : (s.toList == t.toList) = false := by
            rw [beq_eq_false_iff_ne, ByteArray.toList_eq, ByteArray.toList_eq]
            intro e
            exact hst (by cases s; cases t; simp at e; simp [e])
          go_wp2_with fail
          refine HWR.out.mono ?_
          rintro e w2 ⟨rfl, h2, k2⟩
          have H2 := Lib.hid h2
          have HK2 := Lib.hid (trans_q (Keep.of_below (S := fun i => i = q) HB1b.out) k2)
          have h2b := h2
          rw [HV0.out] at h2b
          obtain ⟨A1, c1, eV, hbV, x0, x1, x2, x3, xf⟩ := h2b.fileIs HK.out HG0.out
          have EV := Lib.hid eV
          clear h2 k2 HWR eV xf h2b
          obtain ⟨W3, hW3⟩ : ∃ W3, W3 = w2.alloc (.cells #[.string t, .slice A1 f0.bs.length c1, .int .i64 (f0.la : Int)] 73) := ⟨_, rfl⟩
          have HW3 := Lib.hid hW3
          clear hW3
          obtain ⟨b11, hb11⟩ : ∃ b, b = w2.heap.size := ⟨_, rfl⟩
          have HB11 := Lib.hid hb11
          have hb3 : Below w2.heap.size w2 W3 := by rw [HW3.out]; exact al1 w2 _
          have HR3 := Lib.hid (H2.out.below hb3)
          have HBL := Lib.hid (show Blk W3 b11 73 #[.string t, .slice A1 f0.bs.length c1, .int .i64 (f0.la : Int)] by rw [HW3.out, hb11]; exact Blk.new w2 _ _)
          have HK3 := Lib.hid (trans_q HK2.out (Keep.of_below hb3))
          have HQB := Lib.hid (show b11 ≠ q by have := H2.out.blk.lt; omega)
          have HBW := Lib.hid (show w.heap.size ≤ b11 by have := HK2.out.size; omega)
          clear hb3 hb11
          go_wp2_with fail
          rw [← HW3.out, ← HB11.out]
          obtain ⟨R1, hR1⟩ : ∃ R1, R1 = R.take k ++ R.drop (k + 1) := ⟨_, rfl⟩
          have HL1 := Lib.hid (show R1.length ≤ 63 by have := HL.out; have := HK.out; rw [hR1, List.length_append, List.length_take, List.length_drop]; omega)
          have HP1 := Lib.hid (show pl R1 = delP (pl R) s.data.toList by rw [del_pos HF.out.rise _ HI.out.1, HI.out.2.1, hR1, pl_app, pl_take, pl_drop])
          have HS1 := Lib.hid (show ∀ f ∈ R1, f ∈ R from fun f hf => by
            rw [hR1] at hf
            rcases List.mem_append.1 hf with h | h
            · exact List.mem_of_mem_take h
            · exact List.mem_of_mem_drop h)
          have hdr := HDR.out W3 v (wS S) R HR3.out HL.out k HK.out
          rw [← hR1] at hdr
          have HDR1 := Lib.hid hdr
          clear hdr hR1
          refine HDR1.out.mono ?_
          rintro e W4 ⟨rfl, v4, h4, k4, hf4⟩
          have H4 := Lib.hid h4
          have HK4 := Lib.hid (trans_q HK3.out k4)
          have HB4 := Lib.hid (HBL.out.kept k4 HQB.out)
          clear h4 k4 hf4 HDR1
          obtain ⟨j, hj⟩ : ∃ j, posP (pl R1) t.data.toList = j := ⟨_, rfl⟩
          have hat := HAT.out W4 v4 (wS S) R1 H4.out (by have := HL1.out; omega)
          rw [hj] at hat
          have HJ := Lib.hid hj
          have hjl : j ≤ R1.length := by have := posP_le (pl R1) t.data.toList; rw [hj, pl_len] at this; exact this
          have HJL := Lib.hid hjl
          obtain ⟨hd1, hd2⟩ := pos_del (HF.out.rise.del s.data.toList) t.data.toList
          rw [← HP1.out] at hd1 hd2
          have HD12 := Lib.hid (And.intro hd1 hd2)
          clear hj hjl hd1 hd2
          cases hi : isP (pl R1) t.data.toList with
          | true =>
            rw [hi] at hat
            have HA := Lib.hid hat
            have HI1 := Lib.hid hi
            clear hat hi
            go_wp2_with fail
            refine HA.out.mono ?_
            rintro e W5 ⟨rfl, hb5⟩
            have H5 := Lib.hid (H4.out.below hb5)
            have HK5 := Lib.hid (trans_q HK4.out (Keep.of_below hb5))
            have HB5 := Lib.hid (HB4.out.below hb5 HB4.out.lt)
            clear hb5 HA
            have hjl : j < R1.length := by obtain ⟨hk2, _⟩ := isP_true HI1.out; rw [HJ.out, pl_len] at hk2; exact hk2
            obtain ⟨R2, hR2⟩ : ∃ R2, R2 = R1.take j ++ R1.drop (j + 1) := ⟨_, rfl⟩
            have HP2 := Lib.hid (show pl R2 = delP (delP (pl R) s.data.toList) t.data.toList by rw [← HP1.out, del_pos (by rw [HP1.out]; exact HF.out.rise.del _) _ HI1.out, HJ.out, hR2, pl_app, pl_take, pl_drop])
            have HL2 := Lib.hid (show R2.length ≤ 63 by have := HL1.out; rw [hR2, List.length_append, List.length_take, List.length_drop]; omega)
            have HJ2 := Lib.hid (show j ≤ R2.length ∧ posP (pl R2) t.data.toList = j ∧ isP (pl R2) t.data.toList = false from ⟨by rw [hR2, List.length_append, List.length_take, List.length_drop]; omega, by rw [HP2.out, ← HP1.out, HD12.out.1, HJ.out], by rw [HP2.out, ← HP1.out]; exact HD12.out.2⟩)
            have HS2 := Lib.hid (show ∀ f ∈ R2, f ∈ R from fun f hf => by
              rw [hR2] at hf
              rcases List.mem_append.1 hf with h | h
              · exact HS1.out f (List.mem_of_mem_take h)
              · exact HS1.out f (List.mem_of_mem_drop h))
            have hdr := HDR.out W5 v4 (wS S) R1 H5.out (by have := HL1.out; omega) j hjl
            rw [← hR2] at hdr
            have HDR2 := Lib.hid hdr
            clear hdr hR2 hjl
            go_wp2_with fail
            refine HDR2.out.mono ?_
            rintro e W6 ⟨rfl, v6, h6, k6, hf6⟩
            have H6 := Lib.hid h6
            have HK6 := Lib.hid (trans_q HK5.out k6)
            have HB6 := Lib.hid (HB5.out.kept k6 HQB.out)
            clear h6 k6 hf6 HDR2
            obtain ⟨A, cA, hv, hcA, _⟩ := H6.out.row.shape
            have HV := Lib.hid hv
            have hb6 : Below W6.heap.size W6 W6.drew := (Below.refl _ _).drew
            have HD4 := Lib.hid (H6.out.below hb6)
            have HKW := Lib.hid (trans_q HK6.out (Keep.of_below hb6))
            have hBd := HB6.out.below hb6 HB6.out.lt
            have HSZ4 := Lib.hid HKW.out.size
            have HC9 := Lib.hid (show ∀ X, Below W6.drew.heap.size W6.drew X → X.cell? ⟨q, 0, none⟩ = some (.slice A R2.length cA) ∧ X.cell? ⟨b11, 0, none⟩ = some (.string t) ∧ X.cell? ⟨b11, 1, none⟩ = some (.slice A1 f0.bs.length c1) ∧ X.cell? ⟨b11, 2, none⟩ = some (.int .i64 (f0.la : Int)) from fun X hX => by
              have hB := hBd.below hX hBd.lt
              have := (HD4.out.below hX).c0
              rw [HV.out] at this
              exact ⟨this, by rw [hB.cell]; rfl, by rw [hB.cell]; rfl, by rw [hB.cell]; rfl⟩)
            have hk0j : (0 : Int) ≤ (j : Int) := by omega
            have h64j : (j : Int) ≤ 64 := by have := HL2.out; have := HJ2.out.1; omega
            have hkc : j ≤ cA := by have := HJ2.out.1; omega
            have hklI : (j : Int) ≤ (R2.length : Int) := by have := HJ2.out.1; omega
            have hklN : j ≤ R2.length := HJ2.out.1
            obtain ⟨fr, hfr⟩ : ∃ fr : Fr, fr = ⟨t.data.toList, f0.bs, f0.la, .slice A1 f0.bs.length c1⟩ := ⟨_, rfl⟩
            have HFR := Lib.hid hfr
            have hone1 : ∀ f ∈ [fr], f.v.oneCell' = true := by
              intro f hf
              have e : f = fr := by simpa using hf
              rw [e, hfr]
              rfl
            have HONEF := Lib.hid hone1
            obtain ⟨RR, hRR⟩ : ∃ RR, RR = R2.take j ++ [fr] ++ R2.drop j := ⟨_, rfl⟩
            have HRR := Lib.hid hRR
            have HSZR := Lib.hid (show (R2.take j).length + 1 ≤ 65 ∧ (R2.take j).length + 1 + (R2.drop j).length ≤ 66 by have := HL2.out; rw [List.length_drop, List.length_take]; omega)
            have HONE := Lib.hid (HD4.out.one)
            clear hone1 hfr hRR hv hb6 hBd hcA
            go_wp2_with fail
            refine tail_begin 20 (S := fun X => Below W6.drew.heap.size W6.drew X) hfo (by kernel_rfl) (Below.refl _ _) (fun hS0 => ?_)
            generalize W6.drew = W0 at hS0 HD4 HKW HSZ4 HC9 ⊢
            refine' tail_take (i := 0) (oi := ⟨some 63, _, _, _, _, _⟩) (v := _) rfl (by kernel_rfl) (by kernel_rfl) (by decide) (fun _ _ _ h => h) (Or.inl ⟨by rfl, ?y0t⟩) hS0 ?r0t
            case y0t => (intro w' hSw; obtain ⟨s0, s1, s2, s3⟩ := HC9.out w' hSw; go_simp; try rfl)
            try simp only [Act.put, List.setIfInBounds_toArray, List.set_cons_zero, List.set_cons_succ]
            refine' tail_take (i := 1) (oi := ⟨some 64, _, _, _, _, _⟩) (v := _) rfl (by kernel_rfl) (by kernel_rfl) (by decide) (fun _ _ _ h => h) (Or.inl ⟨by rfl, ?y1t⟩) hS0 ?r1t
            case y1t => (intro w' hSw; obtain ⟨s0, s1, s2, s3⟩ := HC9.out w' hSw; go_simp; try rfl)
            try simp only [Act.put, List.setIfInBounds_toArray, List.set_cons_zero, List.set_cons_succ]
            refine' tail_take (i := 2) (oi := ⟨some 65, _, _, _, _, _⟩) (v := _) rfl (by kernel_rfl) (by kernel_rfl) (by decide) (fun _ _ _ h => h) (Or.inl ⟨by rfl, ?y2t⟩) hS0 ?r2t
            case y2t => (intro w' hSw; obtain ⟨s0, s1, s2, s3⟩ := HC9.out w' hSw; go_simp; try rfl)
            try simp only [Act.put, List.setIfInBounds_toArray, List.set_cons_zero, List.set_cons_succ]
            refine' tail_take (i := 3) (oi := ⟨some 66, _, _, _, _, _⟩) (v := _) rfl (by kernel_rfl) (by kernel_rfl) (by decide) (fun _ _ _ h => h) (Or.inl ⟨by rfl, ?y3t⟩) hS0 ?r3t
            case y3t => (intro w' hSw; obtain ⟨s0, s1, s2, s3⟩ := HC9.out w' hSw; go_simp; try rfl)
            try simp only [Act.put, List.setIfInBounds_toArray, List.set_cons_zero, List.set_cons_succ]
            refine' tail_take (i := 4) (oi := ⟨some 67, _, _, _, _, _⟩) (v := _) rfl (by kernel_rfl) (by kernel_rfl) (by decide) (fun _ _ _ h => h) (Or.inl ⟨by rfl, ?y4t⟩) hS0 ?r4t
            case y4t => (intro w' hSw; obtain ⟨s0, s1, s2, s3⟩ := HC9.out w' hSw; go_simp; try rfl)
            try simp only [Act.put, List.setIfInBounds_toArray, List.set_cons_zero, List.set_cons_succ]
            refine' tail_take (i := 5) (oi := ⟨some 68, _, _, _, _, _⟩) (v := _) rfl (by kernel_rfl) (by kernel_rfl) (by decide) (fun _ _ _ h => h) (Or.inl ⟨by rfl, ?y5t⟩) hS0 ?r5t
            case y5t => (intro w' hSw; obtain ⟨s0, s1, s2, s3⟩ := HC9.out w' hSw; go_simp; try rfl)
            try simp only [Act.put, List.setIfInBounds_toArray, List.set_cons_zero, List.set_cons_succ]
            refine' tail_take (i := 6) (oi := ⟨some 69, _, _, _, _, _⟩) (v := _) rfl (by kernel_rfl) (by kernel_rfl) (by decide) (fun _ _ _ h => h) (Or.inl ⟨by rfl, ?y6t⟩) hS0 ?r6t
            case y6t => (intro w' hSw; obtain ⟨s0, s1, s2, s3⟩ := HC9.out w' hSw; go_simp; try rfl)
            try simp only [Act.put, List.setIfInBounds_toArray, List.set_cons_zero, List.set_cons_succ]
            refine' tail_take (i := 8) (oi := ⟨some 71, _, _, _, _, _⟩) (v := _) rfl (by kernel_rfl) (by kernel_rfl) (by decide) (fun _ _ _ h => h) (Or.inl ⟨by rfl, ?y8t⟩) hS0 ?r8t
            case y8t => (intro w' hSw; obtain ⟨s0, s1, s2, s3⟩ := HC9.out w' hSw; go_simp; try rfl)
            try simp only [Act.put, List.setIfInBounds_toArray, List.set_cons_zero, List.set_cons_succ]
            refine' tail_take (i := 11) (oi := ⟨some 74, _, _, _, _, _⟩) (v := _) rfl (by kernel_rfl) (by kernel_rfl) (by decide) (fun _ _ _ h => h) (Or.inl ⟨by rfl, ?y11t⟩) hS0 ?r11t
            case y11t => (intro w' hSw; obtain ⟨s0, s1, s2, s3⟩ := HC9.out w' hSw; go_simp; try rfl)
            try simp only [Act.put, List.setIfInBounds_toArray, List.set_cons_zero, List.set_cons_succ]
            refine' tail_take (i := 12) (oi := ⟨some 75, _, _, _, _, _⟩) (v := _) rfl (by kernel_rfl) (by kernel_rfl) (by decide) (fun _ _ _ h => h) (Or.inl ⟨by rfl, ?y12t⟩) hS0 ?r12t
            case y12t => (intro w' hSw; obtain ⟨s0, s1, s2, s3⟩ := HC9.out w' hSw; go_simp; try rfl)
            try simp only [Act.put, List.setIfInBounds_toArray, List.set_cons_zero, List.set_cons_succ]
            refine' tail_take (i := 13) (oi := ⟨some 76, _, _, _, _, _⟩) (v := _) rfl (by kernel_rfl) (by kernel_rfl) (by decide) (fun _ _ _ h => h) (Or.inl ⟨by rfl, ?y13t⟩) hS0 ?r13t
            case y13t => (intro w' hSw; obtain ⟨s0, s1, s2, s3⟩ := HC9.out w' hSw; go_simp; try rfl)
            try simp only [Act.put, List.setIfInBounds_toArray, List.set_cons_zero, List.set_cons_succ]
            refine' tail_take (i := 14) (oi := ⟨some 77, _, _, _, _, _⟩) (v := _) rfl (by kernel_rfl) (by kernel_rfl) (by decide) (fun _ _ _ h => h) (Or.inl ⟨by rfl, ?y14t⟩) hS0 ?r14t
            case y14t => (intro w' hSw; obtain ⟨s0, s1, s2, s3⟩ := HC9.out w' hSw; go_simp; try rfl)
            try simp only [Act.put, List.setIfInBounds_toArray, List.set_cons_zero, List.set_cons_succ]
            refine' tail_take (i := 15) (oi := ⟨some 78, _, _, _, _, _⟩) (v := _) rfl (by kernel_rfl) (by kernel_rfl) (by decide) (fun _ _ _ h => h) (Or.inl ⟨by rfl, ?y15t⟩) hS0 ?r15t
            case y15t => (intro w' hSw; obtain ⟨s0, s1, s2, s3⟩ := HC9.out w' hSw; go_simp; try rfl)
            try simp only [Act.put, List.setIfInBounds_toArray, List.set_cons_zero, List.set_cons_succ]
            refine' tail_take (i := 16) (oi := ⟨some 79, _, _, _, _, _⟩) (v := _) rfl (by kernel_rfl) (by kernel_rfl) (by decide) (fun _ _ _ h => h) (Or.inl ⟨by rfl, ?y16t⟩) hS0 ?r16t
            case y16t => (intro w' hSw; obtain ⟨s0, s1, s2, s3⟩ := HC9.out w' hSw; go_simp; try rfl)
            try simp only [Act.put, List.setIfInBounds_toArray, List.set_cons_zero, List.set_cons_succ]
            have slR : SlF W0 (.slice A R2.length cA) R2 := by have := HD4.out.row.sl; rw [HV.out] at this; exact this
            have sl54 : SlF W0 (.slice A j cA) (R2.take j) := slR.front j hklN
            have sl65 := slR.behind' j hklN
            generalize (if cA = j then A else A.map (·.add (j * 3))) = A65 at sl65 ⊢
            clear slR
            refine tail_two (i := 7) (j := 9) (by kernel_rfl) rfl rfl (by decide) (by decide) (fun K hK => ?_) (fun K hK => ?_)
            · refine step_append_files W0 rfl (.const (.slice none 0 0)) (.tmp 69) 31 rfl 0 i0 Try.underlying31 hif hz0 hz1 hz2 _ _ rfl OwnF.nil _ (R2.take j) rfl sl54 (fun f hf => HONE.out f (List.mem_of_mem_take hf)) (by have := HSZR.out; simp only [List.length_nil]; omega) (Nat.zero_le _) ?_
              intro v6b W6b ho6 hgr6 hloc6
              rw [List.nil_append] at ho6
              have hS6 : Below W0.heap.size W0 W6b := (Below.refl _ _).grown hgr6 (Nat.le_refl _) (fun i hi => by cases hi)
              have hf6 : ∀ i, v6b.ownBlock = some i → W0.heap.size ≤ i := fun i hi => by
                rcases hloc6 with e | e
                · rw [e] at hi; cases hi
                · rw [e] at hi; cases hi; exact Nat.le_refl _
              clear hgr6 hloc6 sl54
              refine hK.out _ _ hS6 (fun _ => ?_)
              clear hK K
              try simp only [Act.put, List.setIfInBounds_toArray, List.set_cons_zero, List.set_cons_succ]
              have hSc : Below W0.heap.size W0 (W6b.alloc (.cells #[.string t, .slice A1 f0.bs.length c1, .int .i64 (f0.la : Int)] 73)) := hS6.alloc hS6.size _
              have hs58 : SlF (W6b.alloc (.cells #[.string t, .slice A1 f0.bs.length c1, .int .i64 (f0.la : Int)] 73)) (.slice (some ⟨W6b.heap.size, 0, none⟩) 1 1) [fr] := by rw [HFR.out]; exact SlF.one W6b t _ _ _
              have HO6 := Lib.hid (ho6.alloc (.cells #[.string t, .slice A1 f0.bs.length c1, .int .i64 (f0.la : Int)] 73))
              clear ho6
              refine tail_one (i := 9) (by kernel_rfl) rfl (by decide) (fun K hK => ?_)
              go_simp
              refine hK.out _ _ hSc (fun _ => ?_)
              clear hK K
              try simp only [Act.put, List.setIfInBounds_toArray, List.set_cons_zero, List.set_cons_succ]
              generalize hWc : W6b.alloc (.cells #[.string t, .slice A1 f0.bs.length c1, .int .i64 (f0.la : Int)] 73) = Wc at hSc hs58 HO6 ⊢
              clear hWc hS6
              refine tail_one (i := 10) (by kernel_rfl) rfl (by decide) (fun K hK => ?_)
              refine step_append_files Wc rfl (.tmp 70) (.tmp 72) 31 rfl 0 i0 Try.underlying31 hif hz0 hz1 hz2 _ _ rfl HO6.out _ [fr] rfl hs58 HONEF.out (by have := HSZR.out; simp only [List.length_singleton]; omega) (Nat.zero_le _) ?_
              intro v7 W7 ho7 hgr7 hloc7
              have hS7 : Below W0.heap.size W0 W7 := hSc.grown hgr7 hSc.size hf6
              have hf7 : ∀ i, v7.ownBlock = some i → W0.heap.size ≤ i := fun i hi => by
                rcases hloc7 with e | e
                · rw [e] at hi; exact hf6 i hi
                · rw [e] at hi; cases hi; exact hSc.size
              have HO7 := Lib.hid ho7
              clear hgr7 hloc7 ho7 HO6 hs58 hf6
              refine hK.out _ _ hS7 (fun _ => ?_)
              clear hK K
              try simp only [Act.put, List.setIfInBounds_toArray, List.set_cons_zero, List.set_cons_succ]
              refine tail_one (i := 17) (by kernel_rfl) rfl (by decide) (fun K hK => ?_)
              refine step_append_files W7 rfl (.tmp 73) (.tmp 79) 31 rfl 0 i0 Try.underlying31 hif hz0 hz1 hz2 _ _ rfl HO7.out _ (R2.drop j) rfl (sl65.below hS7) (fun f hf => HONE.out f (List.mem_of_mem_drop hf)) (by have := HSZR.out; rw [List.length_append, List.length_singleton]; omega) (Nat.zero_le _) ?_
              intro v8 W8 ho8 hgr8 hloc8
              rw [← HRR.out] at ho8
              have hS8 : Below W0.heap.size W0 W8 := hS7.grown hgr8 hS7.size hf7
              have hf8 : ∀ i, v8.ownBlock = some i → W0.heap.size ≤ i := fun i hi => by
                rcases hloc8 with e | e
                · rw [e] at hi; exact hf7 i hi
                · rw [e] at hi; cases hi; exact hS7.size
              obtain ⟨A8, n8, c8, hv8⟩ : ∃ A n c, v8 = .slice A n c := by obtain ⟨A, c, e, _⟩ := ho8.shape; exact ⟨A, _, c, e⟩
              subst hv8
              have HO8 := Lib.hid ho8
              have HF8 := Lib.hid hf8
              clear hgr8 hloc8 ho8 HO7 hf7 hf8
              refine hK.out _ _ hS8 (fun _ => ?_)
              clear hK K
              try simp only [Act.put, List.setIfInBounds_toArray, List.set_cons_zero, List.set_cons_succ]
              refine' tail_take (i := 18) (oi := ⟨some 81, _, _, _, _, _⟩) (v := _) rfl (by kernel_rfl) (by kernel_rfl) (by decide) (fun _ _ _ h => h) (Or.inl ⟨by rfl, ?y18tA⟩) hS8 ?r18tA
              case y18tA => (intro w' hSw; obtain ⟨s0, s1, s2, s3⟩ := HC9.out w' hSw; go_simp; try rfl)
              try simp only [Act.put, List.setIfInBounds_toArray, List.set_cons_zero, List.set_cons_succ]
              refine' tail_take (i := 19) (oi := ⟨some 82, _, _, _, _, _⟩) (v := _) rfl (by kernel_rfl) (by kernel_rfl) (by decide) (fun _ _ _ h => h) (Or.inl ⟨by rfl, ?y19tA⟩) hS8 ?r19tA
              case y19tA => (intro w' hSw; obtain ⟨s0, s1, s2, s3⟩ := HC9.out w' hSw; go_simp; try rfl)
              try simp only [Act.put, List.setIfInBounds_toArray, List.set_cons_zero, List.set_cons_succ]
              have hR8 := HD4.out.below hS8
              have fz := hR8.blk.frozen 0
              have fc := hR8.c0
              rw [HV.out] at fc
              have hk8 : Keep (fun i => i = q) W8 (W8.setCell ⟨q, 0, none⟩ (.slice A8 n8 c8)) := Keep.setCell _ _ _ rfl
              have hks8 : Keep (fun i => i = q) w (W8.setCell ⟨q, 0, none⟩ (.slice A8 n8 c8)) := trans_q (trans_q HKW.out (Keep.of_below hS8)) hk8
              have hfin8 : Rd (W8.setCell ⟨q, 0, none⟩ (.slice A8 n8 c8)) q (.slice A8 n8 c8) (wS S) RR := ⟨hR8.blk.set_ 0 _, HO8.out.kept hk8 (fun i hi e => by have := HF8.out i hi; have := HD4.out.blk.lt; omega), fun f hf => by
                rw [HRR.out] at hf
                rcases List.mem_append.1 hf with hf | hf
                · rcases List.mem_append.1 hf with hf | hf
                  · exact (hR8.byt f (List.mem_of_mem_take hf)).kept hk8 (fun i hi e => (hR8.bytq (List.mem_of_mem_take hf) i hi).1 e)
                  · obtain rfl : f = fr := by simpa using hf
                    rw [HFR.out]
                    have := HKB.out _ hks8
                    rw [EV.out] at this
                    exact this
                · exact (hR8.byt f (List.mem_of_mem_drop hf)).kept hk8 (fun i hi e => (hR8.bytq (List.mem_of_mem_drop hf) i hi).1 e)⟩
              have HFIN := Lib.hid (And.intro hfin8 hks8)
              refine tail_last (by kernel_rfl) rfl (by kernel_rfl) (fun K hK => ?_)
              go_simp
              refine hK.out _ _ ?_
              clear hK K
              try simp only [Act.put, List.setIfInBounds_toArray, List.set_cons_zero, List.set_cons_succ]
              clear fz fc HC9 hR8 hk8 hks8 hfin8 hS8 hS7 hSc sl65
              go_wp2_with fail
              refine (done_ref _ _).mono ?_
              rintro e wd ⟨rfl, rfl⟩
              go_wp2
              go_ret
              rw [HR.out]
              refine ⟨_, _, rfl, HFIN.out.1, ?_, HFIN.out.2.mono (fun i hi => .inl hi), RFoot.newv (fun i hi => .inr (Nat.le_trans HSZ4.out (HF8.out i hi))) (fun f hf => ?_)⟩
              · show pl RR = insP (t.data.toList, f0.bs, f0.la) _
                rw [← HP2.out, ins_pos (by rw [HP2.out]; exact (HF.out.rise.del _).del _) _ HJ2.out.2.2]
                show _ = (pl R2).take (posP (pl R2) t.data.toList) ++ _ ++ (pl R2).drop (posP (pl R2) t.data.toList)
                rw [HJ2.out.2.1, HRR.out, pl_app, pl_app, pl_take, pl_drop, HFR.out]
                rfl
              · rw [HRR.out] at hf
                rcases List.mem_append.1 hf with hf | hf
                · rcases List.mem_append.1 hf with hf | hf
                  · exact ⟨f, HS2.out f (List.mem_of_mem_take hf), rfl⟩
                  · obtain rfl : f = fr := by simpa using hf
                    exact ⟨f0, HF0.out, by rw [HFR.out, EV.out]⟩
                · exact ⟨f, HS2.out f (List.mem_of_mem_drop hf), rfl⟩
            · have hSb : Below W0.heap.size W0 (W0.alloc (.cells #[.string t, .slice A1 f0.bs.length c1, .int .i64 (f0.la : Int)] 73)) := (Below.refl _ _).alloc (Nat.le_refl _) _
              have hs58b : SlF (W0.alloc (.cells #[.string t, .slice A1 f0.bs.length c1, .int .i64 (f0.la : Int)] 73)) (.slice (some ⟨W0.heap.size, 0, none⟩) 1 1) [fr] := by rw [HFR.out]; exact SlF.one W0 t _ _ _
              go_simp
              refine hK.out _ _ hSb (fun _ => ?_)
              clear hK K
              try simp only [Act.put, List.setIfInBounds_toArray, List.set_cons_zero, List.set_cons_succ]
              generalize W0.alloc (.cells #[.string t, .slice A1 f0.bs.length c1, .int .i64 (f0.la : Int)] 73) = Wb at hSb hs58b ⊢
              refine tail_one (i := 7) (by kernel_rfl) rfl (by decide) (fun K hK => ?_)
              refine step_append_files Wb rfl (.const (.slice none 0 0)) (.tmp 69) 31 rfl 0 i0 Try.underlying31 hif hz0 hz1 hz2 _ _ rfl OwnF.nil _ (R2.take j) rfl (sl54.below hSb) (fun f hf => HONE.out f (List.mem_of_mem_take hf)) (by have := HSZR.out; simp only [List.length_nil]; omega) (Nat.zero_le _) ?_
              intro v6b W6b ho6 hgr6 hloc6
              rw [List.nil_append] at ho6
              have hSc : Below W0.heap.size W0 W6b := hSb.grown hgr6 hSb.size (fun i hi => by cases hi)
              have hbc : Below Wb.heap.size Wb W6b := (Below.refl _ _).grown hgr6 (Nat.le_refl _) (fun i hi => by cases hi)
              have hs58 := hs58b.below hbc
              have hf6 : ∀ i, v6b.ownBlock = some i → W0.heap.size ≤ i := fun i hi => by
                rcases hloc6 with e | e
                · rw [e] at hi; cases hi
                · rw [e] at hi; cases hi; exact hSb.size
              have HO6 := Lib.hid ho6
              clear hgr6 hloc6 sl54 ho6 hbc hs58b
              refine hK.out _ _ hSc (fun _ => ?_)
              clear hK K
              try simp only [Act.put, List.setIfInBounds_toArray, List.set_cons_zero, List.set_cons_succ]
              generalize W6b = Wc at hSc hs58 HO6 ⊢
              refine tail_one (i := 10) (by kernel_rfl) rfl (by decide) (fun K hK => ?_)
              refine step_append_files Wc rfl (.tmp 70) (.tmp 72) 31 rfl 0 i0 Try.underlying31 hif hz0 hz1 hz2 _ _ rfl HO6.out _ [fr] rfl hs58 HONEF.out (by have := HSZR.out; simp only [List.length_singleton]; omega) (Nat.zero_le _) ?_
              intro v7 W7 ho7 hgr7 hloc7
              have hS7 : Below W0.heap.size W0 W7 := hSc.grown hgr7 hSc.size hf6
              have hf7 : ∀ i, v7.ownBlock = some i → W0.heap.size ≤ i := fun i hi => by
                rcases hloc7 with e | e
                · rw [e] at hi; exact hf6 i hi
                · rw [e] at hi; cases hi; exact hSc.size
              have HO7 := Lib.hid ho7
              clear hgr7 hloc7 ho7 HO6 hs58 hf6
              refine hK.out _ _ hS7 (fun _ => ?_)
              clear hK K
              try simp only [Act.put, List.setIfInBounds_toArray, List.set_cons_zero, List.set_cons_succ]
              refine tail_one (i := 17) (by kernel_rfl) rfl (by decide) (fun K hK => ?_)
              refine step_append_files W7 rfl (.tmp 73) (.tmp 79) 31 rfl 0 i0 Try.underlying31 hif hz0 hz1 hz2 _ _ rfl HO7.out _ (R2.drop j) rfl (sl65.below hS7) (fun f hf => HONE.out f (List.mem_of_mem_drop hf)) (by have := HSZR.out; rw [List.length_append, List.length_singleton]; omega) (Nat.zero_le _) ?_
              intro v8 W8 ho8 hgr8 hloc8
              rw [← HRR.out] at ho8
              have hS8 : Below W0.heap.size W0 W8 := hS7.grown hgr8 hS7.size hf7
              have hf8 : ∀ i, v8.ownBlock = some i → W0.heap.size ≤ i := fun i hi => by
                rcases hloc8 with e | e
                · rw [e] at hi; exact hf7 i hi
                · rw [e] at hi; cases hi; exact hS7.size
              obtain ⟨A8, n8, c8, hv8⟩ : ∃ A n c, v8 = .slice A n c := by obtain ⟨A, c, e, _⟩ := ho8.shape; exact ⟨A, _, c, e⟩
              subst hv8
              have HO8 := Lib.hid ho8
              have HF8 := Lib.hid hf8
              clear hgr8 hloc8 ho8 HO7 hf7 hf8
              refine hK.out _ _ hS8 (fun _ => ?_)
              clear hK K
              try simp only [Act.put, List.setIfInBounds_toArray, List.set_cons_zero, List.set_cons_succ]
              refine' tail_take (i := 18) (oi := ⟨some 81, _, _, _, _, _⟩) (v := _) rfl (by kernel_rfl) (by kernel_rfl) (by decide) (fun _ _ _ h => h) (Or.inl ⟨by rfl, ?y18tB⟩) hS8 ?r18tB
              case y18tB => (intro w' hSw; obtain ⟨s0, s1, s2, s3⟩ := HC9.out w' hSw; go_simp; try rfl)
              try simp only [Act.put, List.setIfInBounds_toArray, List.set_cons_zero, List.set_cons_succ]
              refine' tail_take (i := 19) (oi := ⟨some 82, _, _, _, _, _⟩) (v := _) rfl (by kernel_rfl) (by kernel_rfl) (by decide) (fun _ _ _ h => h) (Or.inl ⟨by rfl, ?y19tB⟩) hS8 ?r19tB
              case y19tB => (intro w' hSw; obtain ⟨s0, s1, s2, s3⟩ := HC9.out w' hSw; go_simp; try rfl)
              try simp only [Act.put, List.setIfInBounds_toArray, List.set_cons_zero, List.set_cons_succ]
              have hR8 := HD4.out.below hS8
              have fz := hR8.blk.frozen 0
              have fc := hR8.c0
              rw [HV.out] at fc
              have hk8 : Keep (fun i => i = q) W8 (W8.setCell ⟨q, 0, none⟩ (.slice A8 n8 c8)) := Keep.setCell _ _ _ rfl
              have hks8 : Keep (fun i => i = q) w (W8.setCell ⟨q, 0, none⟩ (.slice A8 n8 c8)) := trans_q (trans_q HKW.out (Keep.of_below hS8)) hk8
              have hfin8 : Rd (W8.setCell ⟨q, 0, none⟩ (.slice A8 n8 c8)) q (.slice A8 n8 c8) (wS S) RR := ⟨hR8.blk.set_ 0 _, HO8.out.kept hk8 (fun i hi e => by have := HF8.out i hi; have := HD4.out.blk.lt; omega), fun f hf => by
                rw [HRR.out] at hf
                rcases List.mem_append.1 hf with hf | hf
                · rcases List.mem_append.1 hf with hf | hf
                  · exact (hR8.byt f (List.mem_of_mem_take hf)).kept hk8 (fun i hi e => (hR8.bytq (List.mem_of_mem_take hf) i hi).1 e)
                  · obtain rfl : f = fr := by simpa using hf
                    rw [HFR.out]
                    have := HKB.out _ hks8
                    rw [EV.out] at this
                    exact this
                · exact (hR8.byt f (List.mem_of_mem_drop hf)).kept hk8 (fun i hi e => (hR8.bytq (List.mem_of_mem_drop hf) i hi).1 e)⟩
              have HFIN := Lib.hid (And.intro hfin8 hks8)
              refine tail_last (by kernel_rfl) rfl (by kernel_rfl) (fun K hK => ?_)
              go_simp
              refine hK.out _ _ ?_
              clear hK K
              try simp only [Act.put, List.setIfInBounds_toArray, List.set_cons_zero, List.set_cons_succ]
              clear fz fc HC9 hR8 hk8 hks8 hfin8 hS8 hS7 hSc sl65
              go_wp2_with fail
              refine (done_ref _ _).mono ?_
              rintro e wd ⟨rfl, rfl⟩
              go_wp2
              go_ret
              rw [HR.out]
              refine ⟨_, _, rfl, HFIN.out.1, ?_, HFIN.out.2.mono (fun i hi => .inl hi), RFoot.newv (fun i hi => .inr (Nat.le_trans HSZ4.out (HF8.out i hi))) (fun f hf => ?_)⟩
              · show pl RR = insP (t.data.toList, f0.bs, f0.la) _
                rw [← HP2.out, ins_pos (by rw [HP2.out]; exact (HF.out.rise.del _).del _) _ HJ2.out.2.2]
                show _ = (pl R2).take (posP (pl R2) t.data.toList) ++ _ ++ (pl R2).drop (posP (pl R2) t.data.toList)
                rw [HJ2.out.2.1, HRR.out, pl_app, pl_app, pl_take, pl_drop, HFR.out]
                rfl
              · rw [HRR.out] at hf
                rcases List.mem_append.1 hf with hf | hf
                · rcases List.mem_append.1 hf with hf | hf
                  · exact ⟨f, HS2.out f (List.mem_of_mem_take hf), rfl⟩
                  · obtain rfl : f = fr := by simpa using hf
                    exact ⟨f0, HF0.out, by rw [HFR.out, EV.out]⟩
                · exact ⟨f, HS2.out f (List.mem_of_mem_drop hf), rfl⟩
          | false =>
            rw [hi] at hat
            have HA := Lib.hid hat
            have HI1 := Lib.hid hi
            clear hat hi
            go_wp2_with fail
            refine HA.out.mono ?_
            rintro e W5 ⟨rfl, hb5⟩
            have H5 := Lib.hid (H4.out.below hb5)
            have HK5 := Lib.hid (trans_q HK4.out (Keep.of_below hb5))
            have HB5 := Lib.hid (HB4.out.below hb5 HB4.out.lt)
            clear hb5 HA
            obtain ⟨R2, hR2⟩ : ∃ R2, R2 = R1 := ⟨_, rfl⟩
            have hns : ∀ y ∈ pl R1, y.1 ≠ t.data.toList := fun y hy e => by
              have h0 := find_none_pos (F := pl R1) (by rw [HP1.out]; exact HF.out.rise.del _) HI1.out
              unfold findP at h0
              rw [List.find?_eq_none] at h0
              exact absurd e (by simpa using h0 y hy)
            have HP2 := Lib.hid (show pl R2 = delP (delP (pl R) s.data.toList) t.data.toList by rw [← HP1.out, hR2, del_same hns])
            have HL2 := Lib.hid (show R2.length ≤ 63 by rw [hR2]; exact HL1.out)
            have HJ2 := Lib.hid (show j ≤ R2.length ∧ posP (pl R2) t.data.toList = j ∧ isP (pl R2) t.data.toList = false by rw [hR2]; exact ⟨HJL.out, HJ.out, HI1.out⟩)
            have HS2 := Lib.hid (show ∀ f ∈ R2, f ∈ R by rw [hR2]; exact HS1.out)
            rw [← hR2] at H5
            have H6 := H5
            have HK6 := HK5
            have HB6 := HB5
            clear H5 HK5 HB5 hR2 hns
            generalize W5 = W6 at H6 HK6 HB6 ⊢
            generalize v4 = v6 at H6 ⊢
            obtain ⟨A, cA, hv, hcA, _⟩ := H6.out.row.shape
            have HV := Lib.hid hv
            have hb6 : Below W6.heap.size W6 W6.drew := (Below.refl _ _).drew
            have HD4 := Lib.hid (H6.out.below hb6)
            have HKW := Lib.hid (trans_q HK6.out (Keep.of_below hb6))
            have hBd := HB6.out.below hb6 HB6.out.lt
            have HSZ4 := Lib.hid HKW.out.size
            have HC9 := Lib.hid (show ∀ X, Below W6.drew.heap.size W6.drew X → X.cell? ⟨q, 0, none⟩ = some (.slice A R2.length cA) ∧ X.cell? ⟨b11, 0, none⟩ = some (.string t) ∧ X.cell? ⟨b11, 1, none⟩ = some (.slice A1 f0.bs.length c1) ∧ X.cell? ⟨b11, 2, none⟩ = some (.int .i64 (f0.la : Int)) from fun X hX => by
              have hB := hBd.below hX hBd.lt
              have := (HD4.out.below hX).c0
              rw [HV.out] at this
              exact ⟨this, by rw [hB.cell]; rfl, by rw [hB.cell]; rfl, by rw [hB.cell]; rfl⟩)
            have hk0j : (0 : Int) ≤ (j : Int) := by omega
            have h64j : (j : Int) ≤ 64 := by have := HL2.out; have := HJ2.out.1; omega
            have hkc : j ≤ cA := by have := HJ2.out.1; omega
            have hklI : (j : Int) ≤ (R2.length : Int) := by have := HJ2.out.1; omega
            have hklN : j ≤ R2.length := HJ2.out.1
            obtain ⟨fr, hfr⟩ : ∃ fr : Fr, fr = ⟨t.data.toList, f0.bs, f0.la, .slice A1 f0.bs.length c1⟩ := ⟨_, rfl⟩
            have HFR := Lib.hid hfr
            have hone1 : ∀ f ∈ [fr], f.v.oneCell' = true := by
              intro f hf
              have e : f = fr := by simpa using hf
              rw [e, hfr]
              rfl
            have HONEF := Lib.hid hone1
            obtain ⟨RR, hRR⟩ : ∃ RR, RR = R2.take j ++ [fr] ++ R2.drop j := ⟨_, rfl⟩
            have HRR := Lib.hid hRR
            have HSZR := Lib.hid (show (R2.take j).length + 1 ≤ 65 ∧ (R2.take j).length + 1 + (R2.drop j).length ≤ 66 by have := HL2.out; rw [List.length_drop, List.length_take]; omega)
            have HONE := Lib.hid (HD4.out.one)
            clear hone1 hfr hRR hv hb6 hBd hcA
            go_wp2_with fail
            refine tail_begin 20 (S := fun X => Below W6.drew.heap.size W6.drew X) hfo (by kernel_rfl) (Below.refl _ _) (fun hS0 => ?_)
            generalize W6.drew = W0 at hS0 HD4 HKW HSZ4 HC9 ⊢
            refine' tail_take (i := 0) (oi := ⟨some 63, _, _, _, _, _⟩) (v := _) rfl (by kernel_rfl) (by kernel_rfl) (by decide) (fun _ _ _ h => h) (Or.inl ⟨by rfl, ?y0f⟩) hS0 ?r0f
            case y0f => (intro w' hSw; obtain ⟨s0, s1, s2, s3⟩ := HC9.out w' hSw; go_simp; try rfl)
            try simp only [Act.put, List.setIfInBounds_toArray, List.set_cons_zero, List.set_cons_succ]
            refine' tail_take (i := 1) (oi := ⟨some 64, _, _, _, _, _⟩) (v := _) rfl (by kernel_rfl) (by kernel_rfl) (by decide) (fun _ _ _ h => h) (Or.inl ⟨by rfl, ?y1f⟩) hS0 ?r1f
            case y1f => (intro w' hSw; obtain ⟨s0, s1, s2, s3⟩ := HC9.out w' hSw; go_simp; try rfl)
            try simp only [Act.put, List.setIfInBounds_toArray, List.set_cons_zero, List.set_cons_succ]
            refine' tail_take (i := 2) (oi := ⟨some 65, _, _, _, _, _⟩) (v := _) rfl (by kernel_rfl) (by kernel_rfl) (by decide) (fun _ _ _ h => h) (Or.inl ⟨by rfl, ?y2f⟩) hS0 ?r2f
            case y2f => (intro w' hSw; obtain ⟨s0, s1, s2, s3⟩ := HC9.out w' hSw; go_simp; try rfl)
            try simp only [Act.put, List.setIfInBounds_toArray, List.set_cons_zero, List.set_cons_succ]
            refine' tail_take (i := 3) (oi := ⟨some 66, _, _, _, _, _⟩) (v := _) rfl (by kernel_rfl) (by kernel_rfl) (by decide) (fun _ _ _ h => h) (Or.inl ⟨by rfl, ?y3f⟩) hS0 ?r3f
            case y3f => (intro w' hSw; obtain ⟨s0, s1, s2, s3⟩ := HC9.out w' hSw; go_simp; try rfl)
            try simp only [Act.put, List.setIfInBounds_toArray, List.set_cons_zero, List.set_cons_succ]
            refine' tail_take (i := 4) (oi := ⟨some 67, _, _, _, _, _⟩) (v := _) rfl (by kernel_rfl) (by kernel_rfl) (by decide) (fun _ _ _ h => h) (Or.inl ⟨by rfl, ?y4f⟩) hS0 ?r4f
            case y4f => (intro w' hSw; obtain ⟨s0, s1, s2, s3⟩ := HC9.out w' hSw; go_simp; try rfl)
            try simp only [Act.put, List.setIfInBounds_toArray, List.set_cons_zero, List.set_cons_succ]
            refine' tail_take (i := 5) (oi := ⟨some 68, _, _, _, _, _⟩) (v := _) rfl (by kernel_rfl) (by kernel_rfl) (by decide) (fun _ _ _ h => h) (Or.inl ⟨by rfl, ?y5f⟩) hS0 ?r5f
            case y5f => (intro w' hSw; obtain ⟨s0, s1, s2, s3⟩ := HC9.out w' hSw; go_simp; try rfl)
            try simp only [Act.put, List.setIfInBounds_toArray, List.set_cons_zero, List.set_cons_succ]
            refine' tail_take (i := 6) (oi := ⟨some 69, _, _, _, _, _⟩) (v := _) rfl (by kernel_rfl) (by kernel_rfl) (by decide) (fun _ _ _ h => h) (Or.inl ⟨by rfl, ?y6f⟩) hS0 ?r6f
            case y6f => (intro w' hSw; obtain ⟨s0, s1, s2, s3⟩ := HC9.out w' hSw; go_simp; try rfl)
            try simp only [Act.put, List.setIfInBounds_toArray, List.set_cons_zero, List.set_cons_succ]
            refine' tail_take (i := 8) (oi := ⟨some 71, _, _, _, _, _⟩) (v := _) rfl (by kernel_rfl) (by kernel_rfl) (by decide) (fun _ _ _ h => h) (Or.inl ⟨by rfl, ?y8f⟩) hS0 ?r8f
            case y8f => (intro w' hSw; obtain ⟨s0, s1, s2, s3⟩ := HC9.out w' hSw; go_simp; try rfl)
            try simp only [Act.put, List.setIfInBounds_toArray, List.set_cons_zero, List.set_cons_succ]
            refine' tail_take (i := 11) (oi := ⟨some 74, _, _, _, _, _⟩) (v := _) rfl (by kernel_rfl) (by kernel_rfl) (by decide) (fun _ _ _ h => h) (Or.inl ⟨by rfl, ?y11f⟩) hS0 ?r11f
            case y11f => (intro w' hSw; obtain ⟨s0, s1, s2, s3⟩ := HC9.out w' hSw; go_simp; try rfl)
            try simp only [Act.put, List.setIfInBounds_toArray, List.set_cons_zero, List.set_cons_succ]
            refine' tail_take (i := 12) (oi := ⟨some 75, _, _, _, _, _⟩) (v := _) rfl (by kernel_rfl) (by kernel_rfl) (by decide) (fun _ _ _ h => h) (Or.inl ⟨by rfl, ?y12f⟩) hS0 ?r12f
            case y12f => (intro w' hSw; obtain ⟨s0, s1, s2, s3⟩ := HC9.out w' hSw; go_simp; try rfl)
            try simp only [Act.put, List.setIfInBounds_toArray, List.set_cons_zero, List.set_cons_succ]
            refine' tail_take (i := 13) (oi := ⟨some 76, _, _, _, _, _⟩) (v := _) rfl (by kernel_rfl) (by kernel_rfl) (by decide) (fun _ _ _ h => h) (Or.inl ⟨by rfl, ?y13f⟩) hS0 ?r13f
            case y13f => (intro w' hSw; obtain ⟨s0, s1, s2, s3⟩ := HC9.out w' hSw; go_simp; try rfl)
            try simp only [Act.put, List.setIfInBounds_toArray, List.set_cons_zero, List.set_cons_succ]
            refine' tail_take (i := 14) (oi := ⟨some 77, _, _, _, _, _⟩) (v := _) rfl (by kernel_rfl) (by kernel_rfl) (by decide) (fun _ _ _ h => h) (Or.inl ⟨by rfl, ?y14f⟩) hS0 ?r14f
            case y14f => (intro w' hSw; obtain ⟨s0, s1, s2, s3⟩ := HC9.out w' hSw; go_simp; try rfl)
            try simp only [Act.put, List.setIfInBounds_toArray, List.set_cons_zero, List.set_cons_succ]
            refine' tail_take (i := 15) (oi := ⟨some 78, _, _, _, _, _⟩) (v := _) rfl (by kernel_rfl) (by kernel_rfl) (by decide) (fun _ _ _ h => h) (Or.inl ⟨by rfl, ?y15f⟩) hS0 ?r15f
            case y15f => (intro w' hSw; obtain ⟨s0, s1, s2, s3⟩ := HC9.out w' hSw; go_simp; try rfl)
            try simp only [Act.put, List.setIfInBounds_toArray, List.set_cons_zero, List.set_cons_succ]
            refine' tail_take (i := 16) (oi := ⟨some 79, _, _, _, _, _⟩) (v := _) rfl (by kernel_rfl) (by kernel_rfl) (by decide) (fun _ _ _ h => h) (Or.inl ⟨by rfl, ?y16f⟩) hS0 ?r16f
            case y16f => (intro w' hSw; obtain ⟨s0, s1, s2, s3⟩ := HC9.out w' hSw; go_simp; try rfl)
            try simp only [Act.put, List.setIfInBounds_toArray, List.set_cons_zero, List.set_cons_succ]
            have slR : SlF W0 (.slice A R2.length cA) R2 := by have := HD4.out.row.sl; rw [HV.out] at this; exact this
            have sl54 : SlF W0 (.slice A j cA) (R2.take j) := slR.front j hklN
            have sl65 := slR.behind' j hklN
            generalize (if cA = j then A else A.map (·.add (j * 3))) = A65 at sl65 ⊢
            clear slR
            refine tail_two (i := 7) (j := 9) (by kernel_rfl) rfl rfl (by decide) (by decide) (fun K hK => ?_) (fun K hK => ?_)
            · refine step_append_files W0 rfl (.const (.slice none 0 0)) (.tmp 69) 31 rfl 0 i0 Try.underlying31 hif hz0 hz1 hz2 _ _ rfl OwnF.nil _ (R2.take j) rfl sl54 (fun f hf => HONE.out f (List.mem_of_mem_take hf)) (by have := HSZR.out; simp only [List.length_nil]; omega) (Nat.zero_le _) ?_
              intro v6b W6b ho6 hgr6 hloc6
              rw [List.nil_append] at ho6
              have hS6 : Below W0.heap.size W0 W6b := (Below.refl _ _).grown hgr6 (Nat.le_refl _) (fun i hi => by cases hi)
              have hf6 : ∀ i, v6b.ownBlock = some i → W0.heap.size ≤ i := fun i hi => by
                rcases hloc6 with e | e
                · rw [e] at hi; cases hi
                · rw [e] at hi; cases hi; exact Nat.le_refl _
              clear hgr6 hloc6 sl54
              refine hK.out _ _ hS6 (fun _ => ?_)
              clear hK K
              try simp only [Act.put, List.setIfInBounds_toArray, List.set_cons_zero, List.set_cons_succ]
              have hSc : Below W0.heap.size W0 (W6b.alloc (.cells #[.string t, .slice A1 f0.bs.length c1, .int .i64 (f0.la : Int)] 73)) := hS6.alloc hS6.size _
              have hs58 : SlF (W6b.alloc (.cells #[.string t, .slice A1 f0.bs.length c1, .int .i64 (f0.la : Int)] 73)) (.slice (some ⟨W6b.heap.size, 0, none⟩) 1 1) [fr] := by rw [HFR.out]; exact SlF.one W6b t _ _ _
              have HO6 := Lib.hid (ho6.alloc (.cells #[.string t, .slice A1 f0.bs.length c1, .int .i64 (f0.la : Int)] 73))
              clear ho6
              refine tail_one (i := 9) (by kernel_rfl) rfl (by decide) (fun K hK => ?_)
              go_simp
              refine hK.out _ _ hSc (fun _ => ?_)
              clear hK K
              try simp only [Act.put, List.setIfInBounds_toArray, List.set_cons_zero, List.set_cons_succ]
              generalize hWc : W6b.alloc (.cells #[.string t, .slice A1 f0.bs.length c1, .int .i64 (f0.la : Int)] 73) = Wc at hSc hs58 HO6 ⊢
              clear hWc hS6
              refine tail_one (i := 10) (by kernel_rfl) rfl (by decide) (fun K hK => ?_)
              refine step_append_files Wc rfl (.tmp 70) (.tmp 72) 31 rfl 0 i0 Try.underlying31 hif hz0 hz1 hz2 _ _ rfl HO6.out _ [fr] rfl hs58 HONEF.out (by have := HSZR.out; simp only [List.length_singleton]; omega) (Nat.zero_le _) ?_
              intro v7 W7 ho7 hgr7 hloc7
              have hS7 : Below W0.heap.size W0 W7 := hSc.grown hgr7 hSc.size hf6
              have hf7 : ∀ i, v7.ownBlock = some i → W0.heap.size ≤ i := fun i hi => by
                rcases hloc7 with e | e
                · rw [e] at hi; exact hf6 i hi
                · rw [e] at hi; cases hi; exact hSc.size
              have HO7 := Lib.hid ho7
              clear hgr7 hloc7 ho7 HO6 hs58 hf6
              refine hK.out _ _ hS7 (fun _ => ?_)
              clear hK K
              try simp only [Act.put, List.setIfInBounds_toArray, List.set_cons_zero, List.set_cons_succ]
              refine tail_one (i := 17) (by kernel_rfl) rfl (by decide) (fun K hK => ?_)
              refine step_append_files W7 rfl (.tmp 73) (.tmp 79) 31 rfl 0 i0 Try.underlying31 hif hz0 hz1 hz2 _ _ rfl HO7.out _ (R2.drop j) rfl (sl65.below hS7) (fun f hf => HONE.out f (List.mem_of_mem_drop hf)) (by have := HSZR.out; rw [List.length_append, List.length_singleton]; omega) (Nat.zero_le _) ?_
              intro v8 W8 ho8 hgr8 hloc8
              rw [← HRR.out] at ho8
              have hS8 : Below W0.heap.size W0 W8 := hS7.grown hgr8 hS7.size hf7
              have hf8 : ∀ i, v8.ownBlock = some i → W0.heap.size ≤ i := fun i hi => by
                rcases hloc8 with e | e
                · rw [e] at hi; exact hf7 i hi
                · rw [e] at hi; cases hi; exact hS7.size
              obtain ⟨A8, n8, c8, hv8⟩ : ∃ A n c, v8 = .slice A n c := by obtain ⟨A, c, e, _⟩ := ho8.shape; exact ⟨A, _, c, e⟩
              subst hv8
              have HO8 := Lib.hid ho8
              have HF8 := Lib.hid hf8
              clear hgr8 hloc8 ho8 HO7 hf7 hf8
              refine hK.out _ _ hS8 (fun _ => ?_)
              clear hK K
              try simp only [Act.put, List.setIfInBounds_toArray, List.set_cons_zero, List.set_cons_succ]
              refine' tail_take (i := 18) (oi := ⟨some 81, _, _, _, _, _⟩) (v := _) rfl (by kernel_rfl) (by kernel_rfl) (by decide) (fun _ _ _ h => h) (Or.inl ⟨by rfl, ?y18fA⟩) hS8 ?r18fA
              case y18fA => (intro w' hSw; obtain ⟨s0, s1, s2, s3⟩ := HC9.out w' hSw; go_simp; try rfl)
              try simp only [Act.put, List.setIfInBounds_toArray, List.set_cons_zero, List.set_cons_succ]
              refine' tail_take (i := 19) (oi := ⟨some 82, _, _, _, _, _⟩) (v := _) rfl (by kernel_rfl) (by kernel_rfl) (by decide) (fun _ _ _ h => h) (Or.inl ⟨by rfl, ?y19fA⟩) hS8 ?r19fA
              case y19fA => (intro w' hSw; obtain ⟨s0, s1, s2, s3⟩ := HC9.out w' hSw; go_simp; try rfl)
              try simp only [Act.put, List.setIfInBounds_toArray, List.set_cons_zero, List.set_cons_succ]
              have hR8 := HD4.out.below hS8
              have fz := hR8.blk.frozen 0
              have fc := hR8.c0
              rw [HV.out] at fc
              have hk8 : Keep (fun i => i = q) W8 (W8.setCell ⟨q, 0, none⟩ (.slice A8 n8 c8)) := Keep.setCell _ _ _ rfl
              have hks8 : Keep (fun i => i = q) w (W8.setCell ⟨q, 0, none⟩ (.slice A8 n8 c8)) := trans_q (trans_q HKW.out (Keep.of_below hS8)) hk8
              have hfin8 : Rd (W8.setCell ⟨q, 0, none⟩ (.slice A8 n8 c8)) q (.slice A8 n8 c8) (wS S) RR := ⟨hR8.blk.set_ 0 _, HO8.out.kept hk8 (fun i hi e => by have := HF8.out i hi; have := HD4.out.blk.lt; omega), fun f hf => by
                rw [HRR.out] at hf
                rcases List.mem_append.1 hf with hf | hf
                · rcases List.mem_append.1 hf with hf | hf
                  · exact (hR8.byt f (List.mem_of_mem_take hf)).kept hk8 (fun i hi e => (hR8.bytq (List.mem_of_mem_take hf) i hi).1 e)
                  · obtain rfl : f = fr := by simpa using hf
                    rw [HFR.out]
                    have := HKB.out _ hks8
                    rw [EV.out] at this
                    exact this
                · exact (hR8.byt f (List.mem_of_mem_drop hf)).kept hk8 (fun i hi e => (hR8.bytq (List.mem_of_mem_drop hf) i hi).1 e)⟩
              have HFIN := Lib.hid (And.intro hfin8 hks8)
              refine tail_last (by kernel_rfl) rfl (by kernel_rfl) (fun K hK => ?_)
              go_simp
              refine hK.out _ _ ?_
              clear hK K
              try simp only [Act.put, List.setIfInBounds_toArray, List.set_cons_zero, List.set_cons_succ]
              clear fz fc HC9 hR8 hk8 hks8 hfin8 hS8 hS7 hSc sl65
              go_wp2_with fail
              refine (done_ref _ _).mono ?_
              rintro e wd ⟨rfl, rfl⟩
              go_wp2
              go_ret
              rw [HR.out]
              refine ⟨_, _, rfl, HFIN.out.1, ?_, HFIN.out.2.mono (fun i hi => .inl hi), RFoot.newv (fun i hi => .inr (Nat.le_trans HSZ4.out (HF8.out i hi))) (fun f hf => ?_)⟩
              · show pl RR = insP (t.data.toList, f0.bs, f0.la) _
                rw [← HP2.out, ins_pos (by rw [HP2.out]; exact (HF.out.rise.del _).del _) _ HJ2.out.2.2]
                show _ = (pl R2).take (posP (pl R2) t.data.toList) ++ _ ++ (pl R2).drop (posP (pl R2) t.data.toList)
                rw [HJ2.out.2.1, HRR.out, pl_app, pl_app, pl_take, pl_drop, HFR.out]
                rfl
              · rw [HRR.out] at hf
                rcases List.mem_append.1 hf with hf | hf
                · rcases List.mem_append.1 hf with hf | hf
                  · exact ⟨f, HS2.out f (List.mem_of_mem_take hf), rfl⟩
                  · obtain rfl : f = fr := by simpa using hf
                    exact ⟨f0, HF0.out, by rw [HFR.out, EV.out]⟩
                · exact ⟨f, HS2.out f (List.mem_of_mem_drop hf), rfl⟩
            · have hSb : Below W0.heap.size W0 (W0.alloc (.cells #[.string t, .slice A1 f0.bs.length c1, .int .i64 (f0.la : Int)] 73)) := (Below.refl _ _).alloc (Nat.le_refl _) _
              have hs58b : SlF (W0.alloc (.cells #[.string t, .slice A1 f0.bs.length c1, .int .i64 (f0.la : Int)] 73)) (.slice (some ⟨W0.heap.size, 0, none⟩) 1 1) [fr] := by rw [HFR.out]; exact SlF.one W0 t _ _ _
              go_simp
              refine hK.out _ _ hSb (fun _ => ?_)
              clear hK K
              try simp only [Act.put, List.setIfInBounds_toArray, List.set_cons_zero, List.set_cons_succ]
              generalize W0.alloc (.cells #[.string t, .slice A1 f0.bs.length c1, .int .i64 (f0.la : Int)] 73) = Wb at hSb hs58b ⊢
              refine tail_one (i := 7) (by kernel_rfl) rfl (by decide) (fun K hK => ?_)
              refine step_append_files Wb rfl (.const (.slice none 0 0)) (.tmp 69) 31 rfl 0 i0 Try.underlying31 hif hz0 hz1 hz2 _ _ rfl OwnF.nil _ (R2.take j) rfl (sl54.below hSb) (fun f hf => HONE.out f (List.mem_of_mem_take hf)) (by have := HSZR.out; simp only [List.length_nil]; omega) (Nat.zero_le _) ?_
              intro v6b W6b ho6 hgr6 hloc6
              rw [List.nil_append] at ho6
              have hSc : Below W0.heap.size W0 W6b := hSb.grown hgr6 hSb.size (fun i hi => by cases hi)
              have hbc : Below Wb.heap.size Wb W6b := (Below.refl _ _).grown hgr6 (Nat.le_refl _) (fun i hi => by cases hi)
              have hs58 := hs58b.below hbc
              have hf6 : ∀ i, v6b.ownBlock = some i → W0.heap.size ≤ i := fun i hi => by
                rcases hloc6 with e | e
                · rw [e] at hi; cases hi
                · rw [e] at hi; cases hi; exact hSb.size
              have HO6 := Lib.hid ho6
              clear hgr6 hloc6 sl54 ho6 hbc hs58b
              refine hK.out _ _ hSc (fun _ => ?_)
              clear hK K
              try simp only [Act.put, List.setIfInBounds_toArray, List.set_cons_zero, List.set_cons_succ]
              generalize W6b = Wc at hSc hs58 HO6 ⊢
              refine tail_one (i := 10) (by kernel_rfl) rfl (by decide) (fun K hK => ?_)
              refine step_append_files Wc rfl (.tmp 70) (.tmp 72) 31 rfl 0 i0 Try.underlying31 hif hz0 hz1 hz2 _ _ rfl HO6.out _ [fr] rfl hs58 HONEF.out (by have := HSZR.out; simp only [List.length_singleton]; omega) (Nat.zero_le _) ?_
              intro v7 W7 ho7 hgr7 hloc7
              have hS7 : Below W0.heap.size W0 W7 := hSc.grown hgr7 hSc.size hf6
              have hf7 : ∀ i, v7.ownBlock = some i → W0.heap.size ≤ i := fun i hi => by
                rcases hloc7 with e | e
                · rw [e] at hi; exact hf6 i hi
                · rw [e] at hi; cases hi; exact hSc.size
              have HO7 := Lib.hid ho7
              clear hgr7 hloc7 ho7 HO6 hs58 hf6
              refine hK.out _ _ hS7 (fun _ => ?_)
              clear hK K
              try simp only [Act.put, List.setIfInBounds_toArray, List.set_cons_zero, List.set_cons_succ]
              refine tail_one (i := 17) (by kernel_rfl) rfl (by decide) (fun K hK => ?_)
              refine step_append_files W7 rfl (.tmp 73) (.tmp 79) 31 rfl 0 i0 Try.underlying31 hif hz0 hz1 hz2 _ _ rfl HO7.out _ (R2.drop j) rfl (sl65.below hS7) (fun f hf => HONE.out f (List.mem_of_mem_drop hf)) (by have := HSZR.out; rw [List.length_append, List.length_singleton]; omega) (Nat.zero_le _) ?_
              intro v8 W8 ho8 hgr8 hloc8
              rw [← HRR.out] at ho8
              have hS8 : Below W0.heap.size W0 W8 := hS7.grown hgr8 hS7.size hf7
              have hf8 : ∀ i, v8.ownBlock = some i → W0.heap.size ≤ i := fun i hi => by
                rcases hloc8 with e | e
                · rw [e] at hi; exact hf7 i hi
                · rw [e] at hi; cases hi; exact hS7.size
              obtain ⟨A8, n8, c8, hv8⟩ : ∃ A n c, v8 = .slice A n c := by obtain ⟨A, c, e, _⟩ := ho8.shape; exact ⟨A, _, c, e⟩
              subst hv8
              have HO8 := Lib.hid ho8
              have HF8 := Lib.hid hf8
              clear hgr8 hloc8 ho8 HO7 hf7 hf8
              refine hK.out _ _ hS8 (fun _ => ?_)
              clear hK K
              try simp only [Act.put, List.setIfInBounds_toArray, List.set_cons_zero, List.set_cons_succ]
              refine' tail_take (i := 18) (oi := ⟨some 81, _, _, _, _, _⟩) (v := _) rfl (by kernel_rfl) (by kernel_rfl) (by decide) (fun _ _ _ h => h) (Or.inl ⟨by rfl, ?y18fB⟩) hS8 ?r18fB
              case y18fB => (intro w' hSw; obtain ⟨s0, s1, s2, s3⟩ := HC9.out w' hSw; go_simp; try rfl)
              try simp only [Act.put, List.setIfInBounds_toArray, List.set_cons_zero, List.set_cons_succ]
              refine' tail_take (i := 19) (oi := ⟨some 82, _, _, _, _, _⟩) (v := _) rfl (by kernel_rfl) (by kernel_rfl) (by decide) (fun _ _ _ h => h) (Or.inl ⟨by rfl, ?y19fB⟩) hS8 ?r19fB
              case y19fB => (intro w' hSw; obtain ⟨s0, s1, s2, s3⟩ := HC9.out w' hSw; go_simp; try rfl)
              try simp only [Act.put, List.setIfInBounds_toArray, List.set_cons_zero, List.set_cons_succ]
              have hR8 := HD4.out.below hS8
              have fz := hR8.blk.frozen 0
              have fc := hR8.c0
              rw [HV.out] at fc
              have hk8 : Keep (fun i => i = q) W8 (W8.setCell ⟨q, 0, none⟩ (.slice A8 n8 c8)) := Keep.setCell _ _ _ rfl
              have hks8 : Keep (fun i => i = q) w (W8.setCell ⟨q, 0, none⟩ (.slice A8 n8 c8)) := trans_q (trans_q HKW.out (Keep.of_below hS8)) hk8
              have hfin8 : Rd (W8.setCell ⟨q, 0, none⟩ (.slice A8 n8 c8)) q (.slice A8 n8 c8) (wS S) RR := ⟨hR8.blk.set_ 0 _, HO8.out.kept hk8 (fun i hi e => by have := HF8.out i hi; have := HD4.out.blk.lt; omega), fun f hf => by
                rw [HRR.out] at hf
                rcases List.mem_append.1 hf with hf | hf
                · rcases List.mem_append.1 hf with hf | hf
                  · exact (hR8.byt f (List.mem_of_mem_take hf)).kept hk8 (fun i hi e => (hR8.bytq (List.mem_of_mem_take hf) i hi).1 e)
                  · obtain rfl : f = fr := by simpa using hf
                    rw [HFR.out]
                    have := HKB.out _ hks8
                    rw [EV.out] at this
                    exact this
                · exact (hR8.byt f (List.mem_of_mem_drop hf)).kept hk8 (fun i hi e => (hR8.bytq (List.mem_of_mem_drop hf) i hi).1 e)⟩
              have HFIN := Lib.hid (And.intro hfin8 hks8)
              refine tail_last (by kernel_rfl) rfl (by kernel_rfl) (fun K hK => ?_)
              go_simp
              refine hK.out _ _ ?_
              clear hK K
              try simp only [Act.put, List.setIfInBounds_toArray, List.set_cons_zero, List.set_cons_succ]
              clear fz fc HC9 hR8 hk8 hks8 hfin8 hS8 hS7 hSc sl65
              go_wp2_with fail
              refine (done_ref _ _).mono ?_
              rintro e wd ⟨rfl, rfl⟩
              go_wp2
              go_ret
              rw [HR.out]
              refine ⟨_, _, rfl, HFIN.out.1, ?_, HFIN.out.2.mono (fun i hi => .inl hi), RFoot.newv (fun i hi => .inr (Nat.le_trans HSZ4.out (HF8.out i hi))) (fun f hf => ?_)⟩
              · show pl RR = insP (t.data.toList, f0.bs, f0.la) _
                rw [← HP2.out, ins_pos (by rw [HP2.out]; exact (HF.out.rise.del _).del _) _ HJ2.out.2.2]
                show _ = (pl R2).take (posP (pl R2) t.data.toList) ++ _ ++ (pl R2).drop (posP (pl R2) t.data.toList)
                rw [HJ2.out.2.1, HRR.out, pl_app, pl_app, pl_take, pl_drop, HFR.out]
                rfl
              · rw [HRR.out] at hf
                rcases List.mem_append.1 hf with hf | hf
                · rcases List.mem_append.1 hf with hf | hf
                  · exact ⟨f, HS2.out f (List.mem_of_mem_take hf), rfl⟩
                  · obtain rfl : f = fr := by simpa using hf
                    exact ⟨f0, HF0.out, by rw [HFR.out, EV.out]⟩
                · exact ⟨f, HS2.out f (List.mem_of_mem_drop hf), rfl⟩
      | false =>
        rw [hwo] at hwr HR
        have HWR := Lib.hid hwr
        clear hwr hwo
        go_wp2_with fail
        refine HWR.out.mono ?_
        rintro e w2 ⟨rfl, h2, k2⟩
        have H2 := Lib.hid h2
        have HK2 := Lib.hid ((Keep.of_below (S := fun i => i = q) HB1b.out).trans k2 (fun _ h => h) (fun _ _ h => h))
        clear h2 k2
        go_wp2_with fail
        refine (done_ref _ _).mono ?_
        rintro e wd ⟨rfl, rfl⟩
        go_wp2
        go_ret
        rw [HR.out]
        simp only [Bool.false_eq_true, if_false, ite_self]
        exact RRes.num H2.out HK2.out 8
end
end Go.Proofs.Ytdbkhigocjmfoaa

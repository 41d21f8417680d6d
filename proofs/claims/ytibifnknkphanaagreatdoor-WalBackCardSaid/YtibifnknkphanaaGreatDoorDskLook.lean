/-
  The walks of Remove and Rename.
-/
import Derived.Test.YtibifnknkphanaaGreatDoorDskBase
import Derived.WalkKit
namespace Go.Proofs.YtibifnknkphanaaGreatDoor
open Go.RowKit Go.Maps
open DskM
set_option linter.unusedVariables false
set_option linter.unusedSimpArgs false
set_option maxRecDepth 20000

section
variable {w w' : World} {p m : Nat} {S S' : Ds} {L : List Fo} {B : Nat}
theorem Dk.keptMap (h : Dk w p m S L) (k : Keep (fun i => i = m) w w') : Blk w' p 54 (dkc S m) ∧ ∀ f ∈ L, FoAt w' f :=
  ⟨h.blk.kept k (fun e => h.ne_map e.symm), fun f hf => (h.file f hf).kept k (fun e => h.fm hf e.symm) (fun i hi e => h.rm hf (e ▸ hi))⟩
theorem total_del_le (L : List Fo) (n : Nm) : total (del L n) ≤ total L := by
  unfold total del
  induction L with
  | nil => simp
  | cons x L ih =>
    by_cases hx : x.nm = n
    · rw [List.filter_cons_of_neg (by simp [hx]), List.map_cons, List.sum_cons]; omega
    · rw [List.filter_cons_of_pos (by simp [hx]), List.map_cons, List.sum_cons, List.map_cons, List.sum_cons]; omega
/-- A file is gone. -/
theorem Dk.less (h : Dk w p m S L) (n : Nm) {q : Nat} (k : Keep (fun i => i = m) w w') (hm : w'.ownsMap Tryz.prog 9 ptrR m q (DE (del L n))) : Dk w' p m S (del L n) := by
  obtain ⟨hb, hf⟩ := h.keptMap k
  have hx := ownsMap_exact hm
  rw [size_DE] at hx
  refine ⟨hb, hx, rise_del h.rise n, fun f hfm => hf f (mem_del.1 hfm).1, fun f hfm f' hfm' => h.apart f (mem_del.1 hfm).1 f' (mem_del.1 hfm').1, h.cap1, h.cap2, Nat.le_trans (total_del_le L n) h.room, ?_, h.fuse1, h.fuse2⟩
  exact Nat.le_trans (List.length_filter_le _ _) h.few
theorem Foot.less {n : Nm} : ∀ i, Foot p m (del L n) i → Foot p m L i := by
  rintro i (rfl | rfl | ⟨f, hf, hi⟩)
  · exact .inl rfl
  · exact .inr (.inl rfl)
  · exact .inr (.inr ⟨f, (mem_del.1 hf).1, hi⟩)

set_option maxHeartbeats 1000000 in
theorem remove1_any (b1 b2 : Nat) (s : ByteArray) (hs : s.size ≤ maxLen) (W : World) (k1 : W.cell? ⟨b1, 0, none⟩ = some (.pointer (some ⟨p, 0, none⟩))) (k2 : W.cell? ⟨b2, 0, none⟩ = some (.string s)) (hd : Dk W p m S L) :
    Calls Tryz.prog 120 #[.pointer (some ⟨b1, 0, none⟩), .pointer (some ⟨b2, 0, none⟩)] W fun e W' => e = .returned (.tuple #[]) ∧ Turn B W p m L S (delP (plain L) s.data.toList) W' := by
  have hfo : Tryz.prog.follows .mixedOrders = true := by kernel_rfl
  have c1 := hd.c1
  have hown : W.drew.ownsMap Tryz.prog 9 ptrR m L.length (DE L) := hd.map.drew
  have HD := Lib.hid hd
  have HO := Lib.hid hown
  clear hd hown
  go_enter Tryz.func120, Tryz.ntmps120
  refine wp_region_still_tail 5 hfo (by kernel_rfl) ?_
  simp only [List.take_succ_cons, List.take_zero, List.drop_succ_cons, List.drop_zero]
  change wpStill _ _ W.drew (fun a' => wpList _ _ _ _ a' W.drew) _ _
  repeat still_step
  refine wpStill_nil ?_
  refine wpList_delete_own _ rfl (.tmp 5) (.tmp 6) 52 9 rfl 108 strKey Tryz.underlying52 ptrR m L.length (DE L) rfl HO.out (.string s) (.string s.data.toList) rfl (WideMaps.keyOf_string_mk Tryz.underlying9 hs) ?_
  intro W2 hown2 hturn2
  rw [del_DE] at hown2
  have hk : Keep (fun i => i = m) W W2 := (Keep.of_below (S := fun i => i = m) (Below.refl W.heap.size W).drew).trans (Keep.of_grown (S := fun i => i = m) hturn2.grown (fun k e => by injection e with e; exact e.symm)) (fun _ h => h) (fun _ _ h => h)
  have HT := Lib.hid (show Turn B W p m L S (delP (plain L) s.data.toList) W2 from ⟨del L s.data.toList, del_plain L _, HD.out.less _ hk hown2, hk.mono (fun i e => .inl (.inr (.inl e))), fun i hi => .inl (Foot.less i hi)⟩)
  clear hown2 hturn2 hk
  go_wp2
  go_end0
  exact ⟨rfl, HT.out⟩

set_option maxHeartbeats 1000000 in
theorem remove_any (h : Dk w p m S L) (hw : S.wr ≤ 1000000) (s : ByteArray) :
    Calls Tryz.prog 85 #[.pointer (some ⟨p, 0, none⟩), .string s] w (Res w p m L (removeS S (plain L) s.data.toList)) := by
  unfold removeS
  have hb0 : Below w.heap.size w ((w.alloc (.cells #[.pointer (some ⟨p, 0, none⟩)] 37)).alloc (.cells #[.string s] 9)) := ((Below.refl _ _).alloc (Nat.le_refl _) _).alloc (by simp) _
  have hB1 := (Blk.new w 37 #[.pointer (some ⟨p, 0, none⟩)]).alloc (.cells #[.string s] 9)
  have hB2 := Blk.new (w.alloc (.cells #[.pointer (some ⟨p, 0, none⟩)] 37)) 9 #[.string s]
  rw [show (w.alloc (.cells #[.pointer (some ⟨p, 0, none⟩)] 37)).heap.size = w.heap.size + 1 by simp] at hB2
  have h0 := h.below hb0
  have HB0 := Lib.hid hb0
  cases hm : mayB s.data.toList with
  | false =>
    rw [if_neg (by simp)]
    have hfi := find_bad h0 s true (by rw [hm]; simp)
    have H := Lib.hid h
    clear h hm h0 hB1 hB2 hb0
    go_enter Tryz.func85, Tryz.ntmps85
    go_wp2_with fail
    refine hfi.mono ?_
    rintro e w1 ⟨rfl, hb1⟩
    have HB1 := Lib.hid (HB0.out.trans (hb1.mono HB0.out.size))
    clear hfi hb1
    go_wp2
    go_ret
    exact ⟨rfl, .same H.out HB1.out⟩
  | true =>
    rw [if_pos rfl, find_plain]
    cases hf : find L s.data.toList with
    | none =>
      have hfi := find_lacks h0 s hm hf
      have H := Lib.hid h
      clear h hm hf h0 hB1 hB2 hb0
      go_enter Tryz.func85, Tryz.ntmps85
      go_wp2_with fail
      refine hfi.mono ?_
      rintro e w1 ⟨rfl, hb1⟩
      have HB1 := Lib.hid (HB0.out.trans (hb1.mono HB0.out.size))
      clear hfi hb1
      go_wp2
      go_ret
      exact ⟨rfl, .same H.out HB1.out⟩
    | some f =>
      have hfi := find_there h0 s hm f hf
      have hsz : s.size ≤ maxLen := by have := may_size hm; unfold maxLen; omega
      have H := Lib.hid h
      have HW := Lib.hid hw
      have HS := Lib.hid hsz
      have hpl := h.blk.lt
      show Calls _ _ _ _ (Res w p m L (writeS S (delP (plain L) s.data.toList) (plain L) (plain L)))
      clear h hm hf hw h0 hb0 hsz
      go_enter Tryz.func85, Tryz.ntmps85
      go_wp2_with fail
      refine hfi.mono ?_
      rintro e w1 ⟨rfl, hb1⟩
      clear hfi
      have hb2 : Below w.heap.size w w1 := HB0.out.trans (hb1.mono HB0.out.size)
      have hC1 := hB1.below hb1 hB1.lt
      have hC2 := hB2.below hb1 hB2.lt
      have h2 := H.out.below hb2
      have hwr := write_any (B := w.heap.size) h2 HW.out 120 109 #[.pointer (some ⟨w.heap.size, 0, none⟩), .pointer (some ⟨w.heap.size + 1, 0, none⟩)] #[] (delP (plain L) s.data.toList) (plain L)
        (enters_of Tryz.func120 (by kernel_rfl) rfl) enters_nothing
        (fun W hd hk hz => remove1_any w.heap.size (w.heap.size + 1) s HS.out W (by rw [(hC1.kept hk (by omega)).cell]; rfl) (by rw [(hC2.kept hk (by omega)).cell]; rfl) hd)
        (fun W hd _ _ => nothing_turn W _ hd)
      have HWR := Lib.hid hwr
      have HB := Lib.hid hb2
      have q1 : w1.cell? ⟨w.heap.size, 0, none⟩ = some (.pointer (some ⟨p, 0, none⟩)) := by rw [hC1.cell]; rfl
      clear hwr hB1 hB2 h2 hb2 hb1 hC1 hC2
      go_wp2_with fail
      refine HWR.out.mono ?_
      rintro e w2 ⟨rfl, ht⟩
      have HT := Lib.hid ht
      clear ht HWR
      generalize (writeS S (delP (plain L) s.data.toList) (plain L) (plain L)) = r at *
      go_wp2_with fail
      go_ret
      exact ⟨rfl, HT.out.from HB.out⟩
end
end Go.Proofs.YtibifnknkphanaaGreatDoor

namespace Go.Proofs.YtibifnknkphanaaGreatDoor
open Go.RowKit Go.Maps
open DskM
set_option linter.unusedVariables false
set_option linter.unusedSimpArgs false
set_option maxRecDepth 20000

theorem info_u8 : (Tryz.prog.info? 5).map (fun i => (i.zero, i.size, i.bytes)) = some (some (.int .u8 0), 1, 1) := by kernel_rfl
section
variable {P : Program} (w : World)
/-- Bytes appended to a row of the call's own: what else lies there stays. -/
theorem run_append_bytesA (base : Nat) (t ty e : TypeId) (i : TypeInfo) (ht : P.underlying t = some (.slice e)) (hi : P.info? e = some i) (hz : i.zero = some (.int .u8 0))
    (hsize : i.size = 1) (hby : i.bytes = 1) (v : Value) (l : List UInt8) (hown : Own w base e v l)
    (v2 : Value) (m : List UInt8) (hm : Sl w v2 m) (hlen : l.length + m.length ≤ 1000000000) (hbase : base ≤ w.heap.size) :
    ∃ v' w', (Builtin.append_ #[t, t] ty #[v, v2]).run P w = .ok v' w' ∧ Own w' base e v' (l ++ m) ∧ w.grownBy w' v.ownBlock ∧ (v'.ownBlock = v.ownBlock ∨ v'.ownBlock = some w.heap.size) ∧ Below base w w' := by
  obtain ⟨A, c, rfl, hc, ha⟩ := hm
  rcases A with _ | ad
  · have h0 : m = [] := by
      rcases Nat.eq_zero_or_pos m.length with h0 | h0
      · exact List.eq_nil_of_length_eq_zero h0
      · obtain ⟨b, o, h, _⟩ := ha h0
        cases h
    subst h0
    exact ⟨v, w, run_append_of_nil w base t ty e i 1 ht hi v _ _ hown c, by rw [List.append_nil]; exact hown, World.grownBy.refl w _, .inl rfl, Below.refl _ _⟩
  · have hcells : ∀ j u, (m.map bv)[j]? = some u → w.cell? (ad.add j) = some u := by
      intro j u hu
      have hj : j < m.length := by
        have := (List.getElem?_eq_some_iff.1 hu).1
        simpa using this
      obtain ⟨b, o, h, hx⟩ := ha (by omega)
      injection h with h
      subst h
      rw [add_plain, hx j hj, ← hu]
      simp [List.getElem?_eq_getElem hj, bv]
    obtain ⟨v', w', hrun, h2, h3, _, h5⟩ := run_append_own_at (P := P) w base t ty e i (.int .u8 0) 1 1 ht hi hz hsize hby rfl (by decide) v l.length (l.map bv) hown ad m.length c (m.map bv) (by simp) hcells
      (by intro u hu; obtain ⟨c, _, rfl⟩ := List.mem_map.1 hu; rfl) (by unfold maxLen; omega) (by omega) hbase
    refine ⟨v', w', hrun, by unfold Own; rw [List.length_append, List.map_append]; exact h2, h3, h5, ?_⟩
    exact (Below.refl base w).grown h3 hbase (fun k hk => (World.ownsRow.lt hown k hk).1)

theorem wpList_append_bytesA {ops : Array Oper} {rest : List Oper} {o : Oper} {a : Act} {Q : Exit → Act → World → Prop} (hgd : o.guard = none) (s x : Operand) (t : TypeId)
    (ho : o.op = .call { callee := .builtin .append, args := #[s, x], argTypes := #[t, t] })
    (base : Nat) (e : TypeId) (i : TypeInfo) (ht : P.underlying t = some (.slice e)) (hi : P.info? e = some i) (hz : i.zero = some (.int .u8 0))
    (hsize : i.size = 1) (hby : i.bytes = 1) (v : Value) (l : List UInt8) (hs : a.eval s = v) (hown : Own w base e v l)
    (v2 : Value) (m : List UInt8) (hx : a.eval x = v2) (hm : Sl w v2 m) (hlen : l.length + m.length ≤ 1000000000) (hbase : base ≤ w.heap.size)
    (h : ∀ v' w', Own w' base e v' (l ++ m) → w.grownBy w' v.ownBlock → (v'.ownBlock = v.ownBlock ∨ v'.ownBlock = some w.heap.size) → Below base w w' → wpList P ops Q rest (a.put o.dst v') w') : wpList P ops Q (o :: rest) a w := by
  refine wpList_plain hgd fun K hK => ?_
  obtain ⟨v', w', hr, h2, h3, h4, h5⟩ := run_append_bytesA (P := P) w base t o.type e i ht hi hz hsize hby v l hown v2 m hm hlen hbase
  unfold Oper.wp execOp
  simp only [ho, resolve, invoke, builtin, Sem.run_bind, Sem.run_pure, Result.andThen_ok, List.map_toArray, List.map_cons, List.map_nil, hs, hx, hr]
  exact hK _ _ (h v' w' h2 h3 h4 h5)
end


set_option maxHeartbeats 400000 in
/-- slices.Clone. -/
theorem dclone_any (v : Value) (l : List UInt8) (w : World) (hs : Sl w v l) (hl : l.length ≤ 1000000000) :
    Calls Tryz.prog 67 #[v] w fun e w' => ∃ v', e = .returned v' ∧ Own w' w.heap.size 5 v' l ∧ Below w.heap.size w w' := by
  obtain ⟨i0, hi, hz0, hz1, hz2⟩ := info_parts info_u8
  have hs' := hs
  obtain ⟨A, c, rfl, hc, ha⟩ := hs
  have heq := fun (w : World) (a : Option Addr) (n c : Nat) => Lib.run_eql_slice_nil (P := Tryz.prog) w 22 5 a n c 0 0 Tryz.underlying22
  cases A with
  | none =>
    have h0 : l = [] := by
      rcases Nat.eq_zero_or_pos l.length with h0 | h0
      · exact List.eq_nil_of_length_eq_zero h0
      · obtain ⟨b, o, h, _⟩ := ha h0
        cases h
    subst h0
    clear ha
    go_enter Tryz.func67, Tryz.ntmps67
    go_wp2
    go_ret
    exact ⟨_, rfl, Own.nil, Below.refl _ _⟩
  | some ad =>
    clear ha
    have Ho := Lib.hid (Own.of_new w w.heap.size 5 #[] [] 0 (Nat.le_refl _) rfl rfl (by simp))
    have Hl := Lib.hid (show ([] : List UInt8).length + l.length ≤ 1000000000 by simp; omega)
    go_enter Tryz.func67, Tryz.ntmps67
    go_wp2_with (at_builtin; refine wpList_append_bytesA _ rfl _ _ 22 rfl w.heap.size 5 i0 Tryz.underlying22 hi hz0 hz1 hz2 _ [] rfl Ho.out _ l rfl (hs'.alloc _) Hl.out (by simp) ?_)
    intro v2 w2 ho2 _ _ hb2
    have Ho2 := Lib.hid ho2
    clear ho2
    go_wp2
    go_ret
    exact ⟨_, rfl, Ho2.out, ((Below.refl _ _).alloc (Nat.le_refl _) _).trans hb2⟩

section
variable {w w' : World} {p m : Nat} {S S' : Ds} {L : List Fo}
theorem total_ge : ∀ {L : List Fo} {f : Fo}, f ∈ L → f.bs.length ≤ total L
  | [], _, hf => by cases hf
  | x :: L, f, hf => by
    have e : total (x :: L) = x.bs.length + total L := by simp [total]
    rcases List.mem_cons.1 hf with rfl | hf
    · omega
    · have := total_ge hf; omega
theorem Dk.short (h : Dk w p m S L) {f : Fo} (hf : f ∈ L) : f.bs.length ≤ 16777216 := by
  have h1 : f.bs.length ≤ total L := total_ge hf
  have := h.room; have := h.cap2; omega
/-- What Read answers. -/
def readE (L : List Fp) (n : Nm) : Int := if mayB n = true then (match findP L n with | none => 6 | some _ => 0) else 2
def bytesP (F : List Fp) (n : Nm) : List UInt8 := if mayB n = true then (match findP F n with | none => [] | some x => x.2.1) else []
def lastsP (F : List Fp) (n : Nm) : Nat := if mayB n = true then (match findP F n with | none => 0 | some x => x.2.2) else 0
set_option maxHeartbeats 1000000 in
theorem dread_any (h : Dk w p m S L) (s : ByteArray) :
    Calls Tryz.prog 37 #[.pointer (some ⟨p, 0, none⟩), .string s] w fun e w' => ∃ v, e = .returned (.tuple #[v, .int .i64 (readE (plain L) s.data.toList)]) ∧ Own w' w.heap.size 5 v (bytesP (plain L) s.data.toList) ∧ Below w.heap.size w w' := by
  unfold readE bytesP
  cases hm : mayB s.data.toList with
  | false =>
    rw [if_neg (by simp), if_neg (by simp)]
    have hfi := find_bad h s true (by rw [hm]; simp)
    clear h hm
    go_enter Tryz.func37, Tryz.ntmps37
    go_wp2_with fail
    refine hfi.mono ?_
    rintro e w1 ⟨rfl, hb1⟩
    clear hfi
    go_wp2
    go_ret2
    exact ⟨_, rfl, Own.nil, hb1⟩
  | true =>
    rw [if_pos rfl, if_pos rfl, find_plain]
    cases hf : find L s.data.toList with
    | none =>
      have hfi := find_lacks h s hm hf
      clear h hm hf
      go_enter Tryz.func37, Tryz.ntmps37
      go_wp2_with fail
      refine hfi.mono ?_
      rintro e w1 ⟨rfl, hb1⟩
      clear hfi
      go_wp2
      go_ret2
      exact ⟨_, rfl, Own.nil, hb1⟩
    | some f =>
      show Calls _ _ _ _ (fun e w' => ∃ v, e = .returned (.tuple #[v, .int .i64 0]) ∧ Own w' w.heap.size 5 v f.bs ∧ Below w.heap.size w w')
      have hfi := find_there h s hm f hf
      obtain ⟨hfm, hnm⟩ := find_mem hf
      have H := Lib.hid h
      have HM := Lib.hid hfm
      clear h hm hf hfm hnm
      go_enter Tryz.func37, Tryz.ntmps37
      go_wp2_with fail
      refine hfi.mono ?_
      rintro e w1 ⟨rfl, hb1⟩
      clear hfi
      have hfa := (H.out.below hb1).file f HM.out
      have q0 := hfa.c0
      have hcl := dclone_any f.v f.bs w1 hfa.row.sl (by have := H.out.short HM.out; omega)
      obtain ⟨A, n, c, hv⟩ := hfa.row.shape
      rw [hv] at q0 hcl
      clear hv hfa
      go_wp2_with fail
      refine hcl.mono ?_
      rintro e w2 ⟨v', rfl, ho, hb2⟩
      have HO := Lib.hid (ho.mono (B := w.heap.size) hb1.size)
      have hbb := hb1.trans (hb2.mono hb1.size)
      clear ho hcl q0
      go_wp2_with fail
      go_ret2
      exact ⟨_, rfl, HO.out, hbb⟩
set_option maxHeartbeats 1000000 in
theorem lasts_any (h : Dk w p m S L) (s : ByteArray) :
    Calls Tryz.prog 38 #[.pointer (some ⟨p, 0, none⟩), .string s] w fun e w' => e = .returned (.tuple #[.int .i64 (lastsP (plain L) s.data.toList : Int), .int .i64 (readE (plain L) s.data.toList)]) ∧ Below w.heap.size w w' := by
  unfold readE lastsP
  cases hm : mayB s.data.toList with
  | false =>
    rw [if_neg (by simp), if_neg (by simp)]
    have hfi := find_bad h s true (by rw [hm]; simp)
    clear h hm
    go_enter Tryz.func38, Tryz.ntmps38
    go_wp2_with fail
    refine hfi.mono ?_
    rintro e w1 ⟨rfl, hb1⟩
    clear hfi
    go_wp2
    go_ret2
    exact ⟨rfl, hb1⟩
  | true =>
    rw [if_pos rfl, if_pos rfl, find_plain]
    cases hf : find L s.data.toList with
    | none =>
      have hfi := find_lacks h s hm hf
      clear h hm hf
      go_enter Tryz.func38, Tryz.ntmps38
      go_wp2_with fail
      refine hfi.mono ?_
      rintro e w1 ⟨rfl, hb1⟩
      clear hfi
      go_wp2
      go_ret2
      exact ⟨rfl, hb1⟩
    | some f =>
      show Calls _ _ _ _ (fun e w' => e = .returned (.tuple #[.int .i64 (f.la : Int), .int .i64 0]) ∧ Below w.heap.size w w')
      have hfi := find_there h s hm f hf
      obtain ⟨hfm, hnm⟩ := find_mem hf
      have H := Lib.hid h
      have HM := Lib.hid hfm
      clear h hm hf hfm hnm
      go_enter Tryz.func38, Tryz.ntmps38
      go_wp2_with fail
      refine hfi.mono ?_
      rintro e w1 ⟨rfl, hb1⟩
      clear hfi
      have q1 := ((H.out.below hb1).file f HM.out).c1
      go_wp2_with fail
      go_ret2
      exact ⟨rfl, hb1⟩
end
end Go.Proofs.YtibifnknkphanaaGreatDoor

namespace Go.Proofs.YtibifnknkphanaaGreatDoor
open Go.RowKit Go.Maps
open DskM
set_option linter.unusedVariables false
set_option linter.unusedSimpArgs false
set_option maxRecDepth 20000

/-- How many bytes the files have that have come. -/
def came (L : List Fo) (left : Lit → Bool) : Nat := ((L.filter fun f => !left (.string f.nm)).map fun f => f.bs.length).sum
theorem came_none {L : List Fo} {left : Lit → Bool} (h : ∀ f ∈ L, left (.string f.nm) = true) : came L left = 0 := by
  unfold came
  rw [List.filter_eq_nil_iff.2 (fun f hf => by simp [h f hf])]
  rfl
theorem came_all {L : List Fo} {left : Lit → Bool} (h : ∀ kl, left kl = false) : came L left = total L := by
  unfold came total
  rw [List.filter_eq_self.2 (fun f hf => by simp [h])]
theorem came_other {L : List Fo} {left : Lit → Bool} {n : Nm} (h : ∀ f ∈ L, f.nm ≠ n) : came L (fun z => left z && !z.sameKey (.string n)) = came L left := by
  unfold came
  congr 2
  refine List.filter_congr fun f hf => ?_
  have : (Lit.string f.nm).sameKey (.string n) = false := by
    show (f.nm == n) = false
    exact beq_eq_false_iff_ne.2 (h f hf)
  simp [this]
theorem came_step : ∀ {L : List Fo} {left : Lit → Bool} {f : Fo}, Rise L → f ∈ L → left (.string f.nm) = true → came L (fun z => left z && !z.sameKey (.string f.nm)) = came L left + f.bs.length
  | [], _, _, _, hf, _ => by cases hf
  | x :: L, left, f, hr, hf, hl => by
    obtain ⟨h1, h2⟩ := List.pairwise_cons.1 hr
    have cons : ∀ l : Lit → Bool, came (x :: L) l = (if l (.string x.nm) = true then 0 else x.bs.length) + came L l := fun l => by
      unfold came
      by_cases h : l (.string x.nm) = true
      · rw [if_pos h, List.filter_cons_of_neg (by simp [h])]; omega
      · rw [if_neg h, List.filter_cons_of_pos (by simp at h; simp [h]), List.map_cons, List.sum_cons]
    rw [cons, cons]
    rcases List.mem_cons.1 hf with e | hf
    · subst e
      rw [came_other (fun y hy => (h1 y hy).ne.symm), hl]
      have : (Lit.string f.nm).sameKey (.string f.nm) = true := by show (f.nm == f.nm) = true; simp
      rw [this]
      simp; omega
    · rw [came_step h2 hf hl]
      have hne : (Lit.string x.nm).sameKey (.string f.nm) = false := by
        show (x.nm == f.nm) = false
        exact beq_eq_false_iff_ne.2 (h1 f hf).ne
      rw [hne]
      simp; omega
theorem sum_filter_le (L : List Fo) (q : Fo → Bool) : ((L.filter q).map fun f => f.bs.length).sum ≤ (L.map fun f => f.bs.length).sum := by
  induction L with
  | nil => simp
  | cons x L ih =>
    by_cases h : q x = true
    · rw [List.filter_cons_of_pos h, List.map_cons, List.sum_cons, List.map_cons, List.sum_cons]; omega
    · rw [List.filter_cons_of_neg h, List.map_cons, List.sum_cons]; omega
def mkP : Option Nat → Value
  | none => .pointer none
  | some g => .pointer (some ⟨g, 0, none⟩)
theorem inv_str (key : Value) (kl : Lit) (h : keyOf Tryz.prog 9 key = some kl) : ∃ s : ByteArray, key = .string s := by
  cases key <;> simp [keyOf, Tryz.underlying9, mapKey] at h
  exact ⟨_, rfl⟩
theorem key_lit {s : ByteArray} {kl : Lit} (h : keyOf Tryz.prog 9 (.string s) = some kl) : kl = .string s.data.toList := by
  simp [keyOf, Tryz.underlying9, mapKey] at h
  exact h.2.symm
theorem inv_ptr (v : Value) (y : DataW Unit × List MemPlace) (h : ptrR v = some y) : ∃ c, v = mkP c := by
  rcases ptrR_inv h with ⟨rfl, _⟩ | ⟨g, rfl, _⟩
  · exact ⟨none, rfl⟩
  · exact ⟨some g, rfl⟩
/-- What a range's step hands over. -/
theorem entry_is {L : List Fo} {s : ByteArray} {kl : Lit} {c : Option Nat} {y : DataW Unit × List MemPlace} (hk : keyOf Tryz.prog 9 (.string s) = some kl) (hv : ptrR (mkP c) = some y) (hat : ∀ zd, (DE L).atKey kl zd = y.1) :
    ∃ f ∈ L, f.nm = s.data.toList ∧ kl = .string f.nm ∧ c = some f.g := by
  have e := key_lit hk
  subst e
  cases hf : find L s.data.toList with
  | none =>
    have h1 := hat .nil
    have h2 := hat (.lit (.bool true))
    rw [atKey_DE, hf] at h1 h2
    simp at h1 h2
    rw [← h1] at h2
    cases h2
  | some f =>
    obtain ⟨h1, h2⟩ := find_mem hf
    refine ⟨f, h1, h2, by rw [h2], ?_⟩
    have h3 := hat .nil
    rw [atKey_DE, hf] at h3
    simp at h3
    cases c with
    | none =>
      simp [mkP, ptrR] at hv
      subst hv
      cases h3
    | some g =>
      simp [mkP, ptrR] at hv
      subst hv
      simp at h3
      rw [show f.g = g by omega]

section
variable {w w' : World} {p m : Nat} {S S' : Ds} {L : List Fo}
set_option maxHeartbeats 2000000 in
theorem room_any (h : Dk w p m S L) :
    Calls Tryz.prog 71 #[.pointer (some ⟨p, 0, none⟩)] w fun e w' => e = .returned (.int .i64 ((S.cap : Int) - (total L : Int))) ∧ Below w.heap.size w w' := by
  have hn := none_any h
  have c0 := h.c0
  have c1 := h.c1
  have hown := h.map
  have H := Lib.hid h
  have hcap := h.cap2
  have hroom := h.room
  clear h
  go_enter Tryz.func71, Tryz.ntmps71
  go_wp2_with fail
  refine hn.mono ?_
  rintro e w1 ⟨rfl, rfl⟩
  clear hn
  go_wp2_with (at_range; refine wpList_range_own _ rfl _ 52 rfl 9 108 strKey Tryz.underlying52 ptrR m L.length (DE L) rfl hown ?_; intro w0 hrg0 hg0 hs0)
  go_frame
  have hb0 : Below w1.heap.size w1 w0 := (Below.refl _ _).grown hg0 (Nat.le_refl _) (fun k e => by cases e)
  have hst : came L (Maps.has (DE L)) = 0 := came_none (fun f hf => by rw [has_DE, find_of_mem H.out.rise hf]; rfl)
  go_loopw [3] (fun v wr => ∃ left cnt, wr.ranges Tryz.prog 9 ptrR m w1.heap.size L.length (DE L) left cnt ∧ v = .int .i64 ((S.cap : Int) - (came L left : Int)) ∧ came L left ≤ total L ∧ Below w1.heap.size w1 wr) (fun _ wr => wr.rangeLeft m w1.heap.size)
  case atStart => exact ⟨_, _, hrg0, by rw [hst]; simp, by rw [hst]; exact Nat.zero_le _, hb0⟩
  case round =>
    clear hrg0 hg0 hs0 hb0 hst c0 c1 hown
    obtain ⟨left, cnt, hrg, rfl, hle, hb⟩ := hrel
    have HRG := Lib.hid hrg
    go_wp2_with (at_next; refine wpList_next_ranges _ rfl _ rfl 9 strKey ptrR Value.string mkP inv_str inv_ptr m w1.heap.size L.length (DE L) left cnt rfl hrg ?_ ?_)
    · intro hc0 hl0
      have he := came_all (L := L) hl0
      rw [he]
      clear hc0 hl0 hrg hle he
      go_wp2
      go_ret
      exact ⟨rfl, hb⟩
    · intro x c kl yd yp w2 cnt1 hkx hlk hv hat hrg1 hlt hg1 hs1 hen
      obtain ⟨f, hf, hnm, rfl, rfl⟩ := entry_is hkx hv hat
      have hb2 : Below w1.heap.size w1 w2 := hb.grown hg1 hb.size (fun k e => by injection e with e; omega)
      have hfa := (H.out.below hb2).file f hf
      have q0 := hfa.c0
      obtain ⟨A, n, cc, hvv⟩ := hfa.row.shape
      rw [hvv] at q0
      obtain rfl : n = f.bs.length := by have := hfa.row.sl; rw [hvv] at this; exact this.len
      have hst := came_step H.out.rise hf hlk
      have htl : came L left + f.bs.length ≤ total L := by
        rw [← hst]
        unfold came total
        exact sum_filter_le _ _
      simp only [mkP] at hen
      have HST := Lib.hid hst
      have HLT := Lib.hid hlt
      have HRG1 := Lib.hid hrg1
      have hsz := f.bs.length
      clear hkx hlk hv hat hg1 hs1 hfa hvv hst hrg hlt hrg1
      have hw1 : IntKind.i64.wrap ((S.cap : Int) - (came L left : Int) - (f.bs.length : Int)) = (S.cap : Int) - (came L left : Int) - (f.bs.length : Int) := by rw [IntKind.wrap_i64] <;> omega
      go_wp2
      refine ⟨⟨_, _, HRG1.out, ?_, by rw [HST.out]; exact htl, hb2⟩, ?_⟩
      · rw [HST.out]; congr 1; omega
      · rw [HRG1.out.left_eq, HRG.out.left_eq]; exact HLT.out
end
end Go.Proofs.YtibifnknkphanaaGreatDoor

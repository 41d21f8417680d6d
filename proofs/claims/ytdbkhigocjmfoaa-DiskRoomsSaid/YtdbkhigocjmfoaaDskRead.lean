/-
  Bytes appended to a row of the call's own; slices.Clone at bytes; Read, Lasts, Fuse.
-/
import Derived.Test.YtdbkhigocjmfoaaDskRemove
import Derived.WalkKit
namespace Go.Proofs.Ytdbkhigocjmfoaa
open Go.RowKit Go.Maps
open DskM
set_option linter.unusedVariables false
set_option linter.unusedSimpArgs false
set_option maxRecDepth 20000

theorem info_u8 : (Try.prog.info? 5).map (fun i => (i.zero, i.size, i.bytes)) = some (some (.int .u8 0), 1, 1) := by kernel_rfl
section
variable {P : Program} (w : World)
/-- Bytes appended to a row of the call's own: what else lies there stays. -/
theorem run_append_bytesA (base : Nat) (t ty e : TypeId) (i : TypeInfo) (ht : P.underlying t = some (.slice e)) (hi : P.info? e = some i) (hz : i.zero = some (.int .u8 0))
    (hsize : i.size = 1) (hby : i.bytes = 1) (v : Value) (l : List UInt8) (hown : Own w base e v l)
    (v2 : Value) (m : List UInt8) (hm : Sl w v2 m) (hlen : l.length + m.length ≤ 1000000000) (hbase : base ≤ w.heap.size) :
    ∃ v' w', (Builtin.append_ #[t, t] ty #[v, v2]).run P w = .ok v' w' ∧ Own w' base e v' (l ++ m) ∧ w.grownBy w' v.ownBlock ∧ (v'.ownBlock = v.ownBlock ∨ v'.ownBlock = some w.heap.size) ∧ Below base w w' := by
  obtain ⟨A, c, rfl, hc, ha⟩ := hm
  rcases A with _ | ad
  · have h0 : m = [] := by
      rcases Nat.eq_zero_or_pos m.length with h0 | h0
      · exact List.eq_nil_of_length_eq_zero h0
      · obtain ⟨b, o, h, _⟩ := ha h0
        cases h
    subst h0
    exact ⟨v, w, run_append_of_nil w base t ty e i 1 ht hi v _ _ hown c, by rw [List.append_nil]; exact hown, World.grownBy.refl w _, .inl rfl, Below.refl _ _⟩
  · have hcells : ∀ j u, (m.map bv)[j]? = some u → w.cell? (ad.add j) = some u := by
      intro j u hu
      have hj : j < m.length := by
        have := (List.getElem?_eq_some_iff.1 hu).1
        simpa using this
      obtain ⟨b, o, h, hx⟩ := ha (by omega)
      injection h with h
      subst h
      rw [add_plain, hx j hj, ← hu]
      simp [List.getElem?_eq_getElem hj, bv]
    obtain ⟨v', w', hrun, h2, h3, _, h5⟩ := run_append_own_at (P := P) w base t ty e i (.int .u8 0) 1 1 ht hi hz hsize hby rfl (by decide) v l.length (l.map bv) hown ad m.length c (m.map bv) (by simp) hcells
      (by intro u hu; obtain ⟨c, _, rfl⟩ := List.mem_map.1 hu; rfl) (by unfold maxLen; omega) (by omega) hbase
    refine ⟨v', w', hrun, by unfold Own; rw [List.length_append, List.map_append]; exact h2, h3, h5, ?_⟩
    exact (Below.refl base w).grown h3 hbase (fun k hk => (World.ownsRow.lt hown k hk).1)

theorem wpList_append_bytesA {ops : Array Oper} {rest : List Oper} {o : Oper} {a : Act} {Q : Exit → Act → World → Prop} (hgd : o.guard = none) (s x : Operand) (t : TypeId)
    (ho : o.op = .call { callee := .builtin .append, args := #[s, x], argTypes := #[t, t] })
    (base : Nat) (e : TypeId) (i : TypeInfo) (ht : P.underlying t = some (.slice e)) (hi : P.info? e = some i) (hz : i.zero = some (.int .u8 0))
    (hsize : i.size = 1) (hby : i.bytes = 1) (v : Value) (l : List UInt8) (hs : a.eval s = v) (hown : Own w base e v l)
    (v2 : Value) (m : List UInt8) (hx : a.eval x = v2) (hm : Sl w v2 m) (hlen : l.length + m.length ≤ 1000000000) (hbase : base ≤ w.heap.size)
    (h : ∀ v' w', Own w' base e v' (l ++ m) → w.grownBy w' v.ownBlock → (v'.ownBlock = v.ownBlock ∨ v'.ownBlock = some w.heap.size) → Below base w w' → wpList P ops Q rest (a.put o.dst v') w') : wpList P ops Q (o :: rest) a w := by
  refine wpList_plain hgd fun K hK => ?_
  obtain ⟨v', w', hr, h2, h3, h4, h5⟩ := run_append_bytesA (P := P) w base t o.type e i ht hi hz hsize hby v l hown v2 m hm hlen hbase
  unfold Oper.wp execOp
  simp only [ho, resolve, invoke, builtin, Sem.run_bind, Sem.run_pure, Result.andThen_ok, List.map_toArray, List.map_cons, List.map_nil, hs, hx, hr]
  exact hK _ _ (h v' w' h2 h3 h4 h5)
end


set_option maxHeartbeats 400000 in
/-- slices.Clone. -/
theorem clone_any (v : Value) (l : List UInt8) (w : World) (hs : Sl w v l) (hl : l.length ≤ 1000000000) :
    Calls Try.prog 39 #[v] w fun e w' => ∃ v', e = .returned v' ∧ Own w' w.heap.size 5 v' l ∧ Below w.heap.size w w' := by
  obtain ⟨i0, hi, hz0, hz1, hz2⟩ := info_parts info_u8
  have hs' := hs
  obtain ⟨A, c, rfl, hc, ha⟩ := hs
  have heq := fun (w : World) (a : Option Addr) (n c : Nat) => Lib.run_eql_slice_nil (P := Try.prog) w 38 5 a n c 0 0 Try.underlying38
  cases A with
  | none =>
    have h0 : l = [] := by
      rcases Nat.eq_zero_or_pos l.length with h0 | h0
      · exact List.eq_nil_of_length_eq_zero h0
      · obtain ⟨b, o, h, _⟩ := ha h0
        cases h
    subst h0
    clear ha
    go_enter Try.func39, Try.ntmps39
    go_wp2
    go_ret
    exact ⟨_, rfl, Own.nil, Below.refl _ _⟩
  | some ad =>
    clear ha
    have Ho := Lib.hid (Own.of_new w w.heap.size 5 #[] [] 0 (Nat.le_refl _) rfl rfl (by simp))
    have Hl := Lib.hid (show ([] : List UInt8).length + l.length ≤ 1000000000 by simp; omega)
    go_enter Try.func39, Try.ntmps39
    go_wp2_with (at_builtin; refine wpList_append_bytesA _ rfl _ _ 38 rfl w.heap.size 5 i0 Try.underlying38 hi hz0 hz1 hz2 _ [] rfl Ho.out _ l rfl (hs'.alloc _) Hl.out (by simp) ?_)
    intro v2 w2 ho2 _ _ hb2
    have Ho2 := Lib.hid ho2
    clear ho2
    go_wp2
    go_ret
    exact ⟨_, rfl, Ho2.out, ((Below.refl _ _).alloc (Nat.le_refl _) _).trans hb2⟩

section
variable {w w' : World} {p m : Nat} {S S' : Ds} {L : List Fo}
theorem total_ge : ∀ {L : List Fo} {f : Fo}, f ∈ L → f.bs.length ≤ total L
  | [], _, hf => by cases hf
  | x :: L, f, hf => by
    have e : total (x :: L) = x.bs.length + total L := by simp [total]
    rcases List.mem_cons.1 hf with rfl | hf
    · omega
    · have := total_ge hf; omega
theorem Dk.short (h : Dk w p m S L) {f : Fo} (hf : f ∈ L) : f.bs.length ≤ 16777216 := by
  have h1 : f.bs.length ≤ total L := total_ge hf
  have := h.room; have := h.cap2; omega
/-- What Read answers. -/
def readE (L : List Fp) (n : Nm) : Int := if mayB n = true then (match findP L n with | none => 6 | some _ => 0) else 2
def bytesP (F : List Fp) (n : Nm) : List UInt8 := if mayB n = true then (match findP F n with | none => [] | some x => x.2.1) else []
def lastsP (F : List Fp) (n : Nm) : Nat := if mayB n = true then (match findP F n with | none => 0 | some x => x.2.2) else 0
set_option maxHeartbeats 1000000 in
theorem read_any (h : Dk w p m S L) (s : ByteArray) :
    Calls Try.prog 24 #[.pointer (some ⟨p, 0, none⟩), .string s] w fun e w' => ∃ v, e = .returned (.tuple #[v, .int .i64 (readE (plain L) s.data.toList)]) ∧ Own w' w.heap.size 5 v (bytesP (plain L) s.data.toList) ∧ Below w.heap.size w w' := by
  unfold readE bytesP
  cases hm : mayB s.data.toList with
  | false =>
    rw [if_neg (by simp), if_neg (by simp)]
    have hfi := find_bad h s true (by rw [hm]; simp)
    clear h hm
    go_enter Try.func24, Try.ntmps24
    go_wp2_with fail
    refine hfi.mono ?_
    rintro e w1 ⟨rfl, hb1⟩
    clear hfi
    go_wp2
    go_ret2
    exact ⟨_, rfl, Own.nil, hb1⟩
  | true =>
    rw [if_pos rfl, if_pos rfl, find_plain]
    cases hf : find L s.data.toList with
    | none =>
      have hfi := find_lacks h s hm hf
      clear h hm hf
      go_enter Try.func24, Try.ntmps24
      go_wp2_with fail
      refine hfi.mono ?_
      rintro e w1 ⟨rfl, hb1⟩
      clear hfi
      go_wp2
      go_ret2
      exact ⟨_, rfl, Own.nil, hb1⟩
    | some f =>
      show Calls _ _ _ _ (fun e w' => ∃ v, e = .returned (.tuple #[v, .int .i64 0]) ∧ Own w' w.heap.size 5 v f.bs ∧ Below w.heap.size w w')
      have hfi := find_there h s hm f hf
      obtain ⟨hfm, hnm⟩ := find_mem hf
      have H := Lib.hid h
      have HM := Lib.hid hfm
      clear h hm hf hfm hnm
      go_enter Try.func24, Try.ntmps24
      go_wp2_with fail
      refine hfi.mono ?_
      rintro e w1 ⟨rfl, hb1⟩
      clear hfi
      have hfa := (H.out.below hb1).file f HM.out
      have q0 := hfa.c0
      have hcl := clone_any f.v f.bs w1 hfa.row.sl (by have := H.out.short HM.out; omega)
      obtain ⟨A, n, c, hv⟩ := hfa.row.shape
      rw [hv] at q0 hcl
      clear hv hfa
      go_wp2_with fail
      refine hcl.mono ?_
      rintro e w2 ⟨v', rfl, ho, hb2⟩
      have HO := Lib.hid (ho.mono (B := w.heap.size) hb1.size)
      have hbb := hb1.trans (hb2.mono hb1.size)
      clear ho hcl q0
      go_wp2_with fail
      go_ret2
      exact ⟨_, rfl, HO.out, hbb⟩
set_option maxHeartbeats 1000000 in
theorem lasts_any (h : Dk w p m S L) (s : ByteArray) :
    Calls Try.prog 25 #[.pointer (some ⟨p, 0, none⟩), .string s] w fun e w' => e = .returned (.tuple #[.int .i64 (lastsP (plain L) s.data.toList : Int), .int .i64 (readE (plain L) s.data.toList)]) ∧ Below w.heap.size w w' := by
  unfold readE lastsP
  cases hm : mayB s.data.toList with
  | false =>
    rw [if_neg (by simp), if_neg (by simp)]
    have hfi := find_bad h s true (by rw [hm]; simp)
    clear h hm
    go_enter Try.func25, Try.ntmps25
    go_wp2_with fail
    refine hfi.mono ?_
    rintro e w1 ⟨rfl, hb1⟩
    clear hfi
    go_wp2
    go_ret2
    exact ⟨rfl, hb1⟩
  | true =>
    rw [if_pos rfl, if_pos rfl, find_plain]
    cases hf : find L s.data.toList with
    | none =>
      have hfi := find_lacks h s hm hf
      clear h hm hf
      go_enter Try.func25, Try.ntmps25
      go_wp2_with fail
      refine hfi.mono ?_
      rintro e w1 ⟨rfl, hb1⟩
      clear hfi
      go_wp2
      go_ret2
      exact ⟨rfl, hb1⟩
    | some f =>
      show Calls _ _ _ _ (fun e w' => e = .returned (.tuple #[.int .i64 (f.la : Int), .int .i64 0]) ∧ Below w.heap.size w w')
      have hfi := find_there h s hm f hf
      obtain ⟨hfm, hnm⟩ := find_mem hf
      have H := Lib.hid h
      have HM := Lib.hid hfm
      clear h hm hf hfm hnm
      go_enter Try.func25, Try.ntmps25
      go_wp2_with fail
      refine hfi.mono ?_
      rintro e w1 ⟨rfl, hb1⟩
      clear hfi
      have q1 := ((H.out.below hb1).file f HM.out).c1
      go_wp2_with fail
      go_ret2
      exact ⟨rfl, hb1⟩
end
end Go.Proofs.Ytdbkhigocjmfoaa

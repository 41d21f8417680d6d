/-
  What Append does: the closure, of a file that is there, and of one that is not.
-/
import Derived.Test.YtibifnknkphanaaGreatDoorDskLook
import Derived.Test.YtibifnknkphanaaGreatDoorHeldA
import Derived.Deep.RegionHeld
namespace Go.Proofs.YtibifnknkphanaaGreatDoor
open Go.RowKit Go.Maps
open DskM
set_option linter.unusedVariables false
set_option linter.unusedSimpArgs false
set_option maxRecDepth 20000

section
variable {w w' W W' : World} {p m : Nat} {S S' : Ds} {L : List Fo} {B : Nat}
/-- A file more. -/
theorem Dk.more (h : Dk W p m S L) {f' : Fo} (hfn : ∀ y ∈ L, y.nm ≠ f'.nm) (hlt : ∀ i, Foot p m L i → i < B) (hg : B ≤ f'.g) (hv : ∀ i, f'.v.ownBlock = some i → B ≤ i) (hk : Keep (fun i => i = m ∨ B ≤ i) W W') {q : Nat}
    (hm : W'.ownsMap Tryz.prog 9 ptrR m q (DE (ins f' L))) (hF : FoAt W' f') (hr : total L + f'.bs.length ≤ S.cap) (hfew : L.length < 64) : Dk W' p m S (ins f' L) := by
  have hx := ownsMap_exact hm
  rw [size_DE] at hx
  refine ⟨h.blk.kept hk ?_, hx, rise_ins h.rise hfn, fun f hf => ?_, fun x hx y hy hne => ?_, h.cap1, h.cap2, by rw [total_ins]; omega, by rw [len_ins]; omega, h.fuse1, h.fuse2⟩
  · rintro (e | e)
    · exact h.ne_map e.symm
    · have := hlt p (.inl rfl); omega
  · rcases mem_ins.1 hf with rfl | hf
    · exact hF
    · refine (h.file f hf).kept hk ?_ ?_
      · rintro (e | e)
        · exact h.fm hf e.symm
        · have := hlt f.g (.inr (.inr ⟨f, hf, .inl rfl⟩)); omega
      · rintro i hi (e | e)
        · subst e; exact h.rm hf hi
        · have := hlt i (.inr (.inr ⟨f, hf, .inr hi⟩)); omega
  · have key : ∀ z ∈ L, f'.g ≠ z.g ∧ ∀ i, f'.v.ownBlock = some i → z.v.ownBlock ≠ some i := fun z hz =>
      ⟨fun e => by have := hlt z.g (.inr (.inr ⟨z, hz, .inl rfl⟩)); omega, fun i hi e => by have := hlt i (.inr (.inr ⟨z, hz, .inr e⟩)); have := hv i hi; omega⟩
    rcases mem_ins.1 hx with ex | hx1 <;> rcases mem_ins.1 hy with ey | hy1
    · exact absurd (by rw [ex, ey]) hne
    · rw [ex]; exact key y hy1
    · obtain ⟨a, b⟩ := key x hx1
      rw [ey]
      exact ⟨fun e => a e.symm, fun i hi e => b i e hi⟩
    · exact h.apart x hx1 y hy1 hne
theorem Foot.more {f' : Fo} (hg : B ≤ f'.g) (hv : ∀ i, f'.v.ownBlock = some i → B ≤ i) : ∀ i, Foot p m (ins f' L) i → Foot p m L i ∨ B ≤ i := by
  rintro i (rfl | rfl | ⟨f, hf, hi⟩)
  · exact .inl (.inl rfl)
  · exact .inl (.inr (.inl rfl))
  · rcases mem_ins.1 hf with rfl | hf
    · rcases hi with rfl | hi
      · exact .inr hg
      · exact .inr (hv i hi)
    · exact .inl (.inr (.inr ⟨f, hf, hi⟩))

theorem step_append_bytesA {P : Program} (w : World) {ops : Array Oper} {o : Oper} {a : Act} {K : Act → World → Prop} {Q : Exit → Act → World → Prop} {E : Prop} (hgd : o.guard = none) (s x : Operand) (t : TypeId)
    (ho : o.op = .call { callee := .builtin .append, args := #[s, x], argTypes := #[t, t] })
    (base : Nat) (e : TypeId) (i : TypeInfo) (ht : P.underlying t = some (.slice e)) (hi : P.info? e = some i) (hz : i.zero = some (.int .u8 0))
    (hsize : i.size = 1) (hby : i.bytes = 1) (v : Value) (l : List UInt8) (hs : a.eval s = v) (hown : Own w base e v l)
    (v2 : Value) (m : List UInt8) (hx : a.eval x = v2) (hm : Sl w v2 m) (hlen : l.length + m.length ≤ 1000000000) (hbase : base ≤ w.heap.size)
    (h : ∀ v' w', Own w' base e v' (l ++ m) → w.grownBy w' v.ownBlock → (v'.ownBlock = v.ownBlock ∨ v'.ownBlock = some w.heap.size) → K (a.put o.dst v') w') : if Region.wanted o (yielded ops a.tmps) = true then Oper.wp P o a w K Q else E := by
  have hw : Region.wanted o (yielded ops a.tmps) = true := by simp [Region.wanted, hgd]
  rw [if_pos hw]
  obtain ⟨v', w', hr, h2, h3, h4, h5⟩ := run_append_bytesA (P := P) w base t o.type e i ht hi hz hsize hby v l hown v2 m hm hlen hbase
  unfold Oper.wp execOp
  simp only [ho, resolve, invoke, builtin, Sem.run_bind, Sem.run_pure, Result.andThen_ok, List.map_toArray, List.map_cons, List.map_nil, hs, hx, hr]
  exact h v' w' h2 h3 h4

set_option maxHeartbeats 4000000 in
theorem app1_there (bf bd bn bb : Nat) (vb : Value) (b : List UInt8) (f : Fo) (hf : f ∈ L) (hd : Dk W p m S L) (hBf : Blk W bf 108 #[.pointer (some ⟨f.g, 0, none⟩)]) (hBb : Blk W bb 22 #[vb]) (hs : Sl W vb b)
    (hr : total L + b.length ≤ S.cap) (hB : B ≤ W.heap.size) :
    Calls Tryz.prog 72 #[.pointer (some ⟨bf, 0, none⟩), .pointer (some ⟨bd, 0, none⟩), .pointer (some ⟨bn, 0, none⟩), .pointer (some ⟨bb, 0, none⟩)] W fun e W' => e = .returned (.tuple #[]) ∧ Turn B W p m L S (setP (plain L) (f.nm, f.bs ++ b, f.la)) W' := by
  have hfo : Tryz.prog.follows .mixedOrders = true := by kernel_rfl
  obtain ⟨i0, hi, hz0, hz1, hz2⟩ := info_parts info_u8
  have hfa := hd.file f hf
  have hsh := hd.short hf
  have hca := hd.cap2
  have HD := Lib.hid hd
  have HF := Lib.hid hf
  have HFA := Lib.hid hfa
  have HBF := Lib.hid hBf
  have HBB := Lib.hid hBb
  have cf : W.cell? ⟨bf, 0, none⟩ = some (.pointer (some ⟨f.g, 0, none⟩)) := by rw [hBf.cell]; rfl
  have cb : W.cell? ⟨bb, 0, none⟩ = some vb := by rw [hBb.cell]; rfl
  have q0 : W.drew.cell? ⟨f.g, 0, none⟩ = some f.v := by rw [World.cell?_drew]; exact hfa.c0
  have hrow : Own W.drew 0 5 f.v f.bs := hfa.row.drew
  have hs' := hs.drew
  have hlen : f.bs.length + b.length ≤ 1000000000 := by omega
  have HR := Lib.hid hr
  obtain ⟨A, n, c, hvv⟩ := hfa.row.shape
  obtain ⟨A2, n2, c2, hvb⟩ := hs.shape
  rw [hvb] at cb hs'
  clear hd hf hfa hs hsh hr hca hBf hBb
  have HVV := Lib.hid hvv
  rw [hvv] at q0 hrow
  have hbw : Below W.heap.size W W.drew := (Below.refl _ _).drew
  have hsz2 : W.drew.heap.size = W.heap.size := rfl
  clear hvv
  go_enter Tryz.func72, Tryz.ntmps72
  go_wp2_with fail
  refine wp_region_held_drew (S := fun w' => w'.cell? ⟨bf, 0, none⟩ = some (.pointer (some ⟨f.g, 0, none⟩)) ∧ w'.cell? ⟨bb, 0, none⟩ = some (.slice A2 n2 c2)) hfo ⟨by rw [World.cell?_drew]; exact cf, by rw [World.cell?_drew]; exact cb⟩ (fun hS0 => ?_)
  generalize W.drew = W2 at hS0 q0 hrow hs' hbw hsz2 ⊢
  clear cf cb
  refine' wpAnyH_take (i := 0) (oi := ⟨some 14, _, _, _, _, _⟩) (v := _) rfl (by kernel_rfl) (by kernel_rfl) (by kernel_rfl) (fun _ _ _ h => h) (Or.inl ⟨by rfl, ?y0⟩) hS0 ?r0
  case y0 => (intro w' hSw; obtain ⟨s0, s1⟩ := hSw; go_simp; try rfl)
  try simp only [Act.put, List.setIfInBounds_toArray, List.set_cons_zero, List.set_cons_succ]
  refine' wpAnyH_take (i := 1) (oi := ⟨some 15, _, _, _, _, _⟩) (v := _) rfl (by kernel_rfl) (by kernel_rfl) (by kernel_rfl) (fun _ _ _ h => h) (Or.inl ⟨by rfl, ?y1⟩) hS0 ?r1
  case y1 => (intro w' hSw; obtain ⟨s0, s1⟩ := hSw; go_simp; try rfl)
  try simp only [Act.put, List.setIfInBounds_toArray, List.set_cons_zero, List.set_cons_succ]
  refine' wpAnyH_take (i := 2) (oi := ⟨some 16, _, _, _, _, _⟩) (v := _) rfl (by kernel_rfl) (by kernel_rfl) (by kernel_rfl) (fun _ _ _ h => h) (Or.inl ⟨by rfl, ?y2⟩) hS0 ?r2
  case y2 => (intro w' hSw; obtain ⟨s0, s1⟩ := hSw; go_simp; try rfl)
  try simp only [Act.put, List.setIfInBounds_toArray, List.set_cons_zero, List.set_cons_succ]
  refine' wpAnyH_take (i := 3) (oi := ⟨some 17, _, _, _, _, _⟩) (v := _) rfl (by kernel_rfl) (by kernel_rfl) (by kernel_rfl) (fun _ _ _ h => h) (Or.inl ⟨by rfl, ?y3⟩) hS0 ?r3
  case y3 => (intro w' hSw; obtain ⟨s0, s1⟩ := hSw; go_simp; try rfl)
  try simp only [Act.put, List.setIfInBounds_toArray, List.set_cons_zero, List.set_cons_succ]
  refine' wpAnyH_take (i := 5) (oi := ⟨some 19, _, _, _, _, _⟩) (v := _) rfl (by kernel_rfl) (by kernel_rfl) (by kernel_rfl) (fun _ _ _ h => h) (Or.inl ⟨by rfl, ?y5⟩) hS0 ?r5
  case y5 => (intro w' hSw; obtain ⟨s0, s1⟩ := hSw; go_simp; try rfl)
  try simp only [Act.put, List.setIfInBounds_toArray, List.set_cons_zero, List.set_cons_succ]
  refine held_one (i := 4) (by kernel_rfl) rfl (fun K hK => ?_)
  go_simp
  refine hK.out _ _ hS0 (fun _ => ?_)
  clear hK K
  try simp only [Act.put, List.setIfInBounds_toArray, List.set_cons_zero, List.set_cons_succ]
  refine held_one (i := 6) (by kernel_rfl) rfl (fun K hK => ?_)
  refine step_append_bytesA W2 rfl (.tmp 18) (.tmp 19) 22 rfl 0 5 i0 Tryz.underlying22 hi hz0 hz1 hz2 _ _ rfl hrow _ b rfl hs' hlen (Nat.zero_le _) ?_
  intro v3 W3 ho3 hgr3 hloc3
  have hk3 : Keep (fun i => f.v.ownBlock = some i) W W3 := (Keep.of_below (S := fun i => f.v.ownBlock = some i) hbw).trans (Keep.of_grown (S := fun i => f.v.ownBlock = some i) hgr3 (fun k e => by rw [HVV.out]; exact e)) (fun _ h => h) (fun _ _ h => h)
  have hB3 : Blk W3 f.g 110 (foc f) := HFA.out.blk.kept hk3 (HD.out.rf HF.out HF.out)
  have hrt : ∀ (g : Nat) (t : TypeId) (cs : Array Value), Blk W g t cs → t ≠ 5 → f.v.ownBlock ≠ some g := fun g t cs hg ht e => by
    obtain ⟨cs2, hc2⟩ := HFA.out.row.isRow e
    exact absurd rfl (hg.ne_ hc2 ht)
  have hBf3 := HBF.out.kept hk3 (hrt _ _ _ HBF.out (by decide))
  have hBb3 := HBB.out.kept hk3 (hrt _ _ _ HBB.out (by decide))
  have hS3 : W3.cell? ⟨bf, 0, none⟩ = some (.pointer (some ⟨f.g, 0, none⟩)) ∧ W3.cell? ⟨bb, 0, none⟩ = some (.slice A2 n2 c2) := ⟨by rw [hBf3.cell]; rfl, by rw [hBb3.cell, hvb]; rfl⟩
  have z0 := hB3.frozen 0
  have z1 : W3.cell? ⟨f.g, 0, none⟩ = some f.v := by rw [hB3.cell]; rfl
  obtain ⟨A3, n3, c3, rfl⟩ := ho3.shape
  have hS4 : (W3.setCell ⟨f.g, 0, none⟩ (.slice A3 n3 c3)).cell? ⟨bf, 0, none⟩ = some (.pointer (some ⟨f.g, 0, none⟩)) ∧ (W3.setCell ⟨f.g, 0, none⟩ (.slice A3 n3 c3)).cell? ⟨bb, 0, none⟩ = some (.slice A2 n2 c2) := ⟨by rw [(hBf3.far (hBf3.ne_ hB3 (by decide)) _).cell]; rfl, by rw [(hBb3.far (hBb3.ne_ hB3 (by decide)) _).cell, hvb]; rfl⟩
  have hT : Turn B W p m L S (setP (plain L) (f.nm, f.bs ++ b, f.la)) (W3.setCell ⟨f.g, 0, none⟩ (.slice A3 n3 c3)) := by
    have hnr : ∀ i, (Value.slice A3 n3 c3).ownBlock = some i → f.v.ownBlock = some i ∨ W.heap.size ≤ i := fun i hi => by
      rcases hloc3 with e | e
      · rw [HVV.out]; exact .inl (e ▸ hi)
      · rw [e] at hi; injection hi with hi; exact .inr (by omega)
    have hne : (Value.slice A3 n3 c3).ownBlock ≠ some f.g := fun e => by
      rcases hnr _ e with e | e
      · exact HD.out.rf HF.out HF.out e
      · have := HFA.out.blk.lt; omega
    refine Turn.put (f' := { f with bs := f.bs ++ b, v := .slice A3 n3 c3 }) HD.out HF.out rfl rfl (hk3.trans (Keep.setCell (S := fun i => i = f.g ∨ f.v.ownBlock = some i) W3 ⟨f.g, 0, none⟩ _ (.inl rfl)) (fun _ h => .inr h) (fun _ _ h => h)) ⟨hB3.set_ 0 _, ?_, ?_, HFA.out.may⟩ hnr ?_ hB
    · exact ho3.keep fun k hk => Below.heap_setCell _ _ _ k (fun e => hne (by rw [hk]; exact congrArg some e))
    · have := HFA.out.la; show f.la ≤ (f.bs ++ b).length; rw [List.length_append]; omega
    · show total L + (f.bs ++ b).length ≤ _; rw [List.length_append]; have := HR.out; omega
  have HT := Lib.hid hT
  clear hT hB3 hk3 hgr3 hloc3 ho3 hrow hs' hlen hrt hBf3 hBb3 hbw hsz2
  refine hK.out _ _ hS3 (fun _ => ?_)
  clear hK K
  try simp only [Act.put, List.setIfInBounds_toArray, List.set_cons_zero, List.set_cons_succ]
  refine' wpAnyH_take (i := 7) (oi := ⟨some 21, _, _, _, _, _⟩) (v := _) rfl (by kernel_rfl) (by kernel_rfl) (by kernel_rfl) (fun _ _ _ h => h) (Or.inl ⟨by rfl, ?y7⟩) hS3 ?r7
  case y7 => (intro w' hSw; obtain ⟨s0, s1⟩ := hSw; go_simp; try rfl)
  try simp only [Act.put, List.setIfInBounds_toArray, List.set_cons_zero, List.set_cons_succ]
  refine' wpAnyH_take (i := 8) (oi := ⟨some 22, _, _, _, _, _⟩) (v := _) rfl (by kernel_rfl) (by kernel_rfl) (by kernel_rfl) (fun _ _ _ h => h) (Or.inl ⟨by rfl, ?y8⟩) hS3 ?r8
  case y8 => (intro w' hSw; obtain ⟨s0, s1⟩ := hSw; go_simp; try rfl)
  try simp only [Act.put, List.setIfInBounds_toArray, List.set_cons_zero, List.set_cons_succ]
  refine held_one (i := 9) (by kernel_rfl) rfl (fun K hK => ?_)
  go_simp
  refine hK.out _ _ hS4 (fun _ => ?_)
  clear hK K
  try simp only [Act.put, List.setIfInBounds_toArray, List.set_cons_zero, List.set_cons_succ]
  refine wpAnyH_done (by kernel_rfl) ?_ _
  go_wp2
  go_end0
  exact ⟨rfl, HT.out⟩
end
end Go.Proofs.YtibifnknkphanaaGreatDoor

namespace Go.Proofs.YtibifnknkphanaaGreatDoor
open Go.RowKit Go.Maps
open DskM
set_option linter.unusedVariables false
set_option linter.unusedSimpArgs false
set_option maxRecDepth 20000

theorem del_none {L : List Fo} {n : Nm} (h : find L n = none) : del L n = L := by
  refine List.filter_eq_self.2 fun z hz => ?_
  have := find_none.1 h z hz
  simp [this]
theorem Sl.keptAll {T : Nat → Prop} {w w' : World} {v : Value} {l : List UInt8} (h : Sl w v l) (k : Keep T w w') (hT : ∀ i, T i → ∀ j n, w.cell? ⟨i, j, none⟩ ≠ some (.int .u8 n)) : Sl w' v l := by
  obtain ⟨A, c, rfl, hc, ha⟩ := h
  refine ⟨A, c, rfl, hc, fun hn => ?_⟩
  obtain ⟨b, o, rfl, hx⟩ := ha hn
  exact ⟨b, o, rfl, fun j hj => k.cell (hx j hj) (fun ht => hT b ht _ _ (hx j hj))⟩
theorem map_nocell {H : Type} {w : World} {P : Program} {k : TypeId} {R : Value → Option (DataW H × List MemPlace)} {b n : Nat} {D : DataW H} (h : w.ownsMap P k R b n D) {j : Nat} {u : Value} (e : w.cell? ⟨b, j, none⟩ = some u) : False := by
  obtain ⟨es, clock, hb, _⟩ := h
  unfold World.cell? at e
  rw [hb] at e
  simp at e
section
variable {w w' W W' : World} {p m : Nat} {S S' : Ds} {L : List Fo} {B : Nat}
set_option maxHeartbeats 8000000 in
theorem app1_new (bf bd bn bb : Nat) (s : ByteArray) (vb : Value) (b : List UInt8) (hn : find L s.data.toList = none) (hmay : mayB s.data.toList = true) (hd : Dk W p m S L)
    (hBf : Blk W bf 108 #[.pointer none]) (hBd : Blk W bd 37 #[.pointer (some ⟨p, 0, none⟩)]) (hBn : Blk W bn 9 #[.string s]) (hBb : Blk W bb 22 #[vb]) (hs : Sl W vb b)
    (hr : total L + b.length ≤ S.cap) (hfew : L.length < 64) (hB : B ≤ W.heap.size) (hbf : B ≤ bf) (hlt : ∀ i, Foot p m L i → i < B) :
    Calls Tryz.prog 72 #[.pointer (some ⟨bf, 0, none⟩), .pointer (some ⟨bd, 0, none⟩), .pointer (some ⟨bn, 0, none⟩), .pointer (some ⟨bb, 0, none⟩)] W fun e W' => e = .returned (.tuple #[]) ∧ Turn B W p m L S (insP (s.data.toList, b, 0) (plain L)) W' := by
  have hfo : Tryz.prog.follows .mixedOrders = true := by kernel_rfl
  obtain ⟨i0, hi, hz0, hz1, hz2⟩ := info_parts info_u8
  have hsz : s.size ≤ maxLen := by have := may_size hmay; unfold maxLen; omega
  obtain ⟨V1, hV1⟩ : ∃ V1, V1 = (W.setCell ⟨bf, 0, none⟩ (.pointer (some ⟨W.heap.size, 0, none⟩))).alloc (.cells #[.slice none 0 0, .int .i64 0] 110) := ⟨_, rfl⟩
  have hsw : (W.setCell ⟨bf, 0, none⟩ (.pointer (some ⟨W.heap.size, 0, none⟩))).heap.size = W.heap.size := by simp [World.setCell]
  have hbfW := hBf.lt
  have a1 : Keep (fun i => i = bf) W V1 := by
    rw [hV1]
    exact (Keep.setCell (S := fun i => i = bf) W ⟨bf, 0, none⟩ _ rfl).trans (Keep.of_below (S := fun i => i = bf) ((Below.refl _ _).alloc (Nat.le_refl _) _)) (fun _ h => h) (fun _ _ h => h)
  have hd1 : Dk V1 p m S L := hd.kept a1 (fun i hi e => by have := hlt i hi; omega)
  have hBf1 : Blk V1 bf 108 #[.pointer (some ⟨W.heap.size, 0, none⟩)] := by rw [hV1]; exact (hBf.set_ 0 _).alloc _
  have hBg1 : Blk V1 W.heap.size 110 #[.slice none 0 0, .int .i64 0] := by
    have h := Blk.new (W.setCell ⟨bf, 0, none⟩ (.pointer (some ⟨W.heap.size, 0, none⟩))) 110 #[.slice none 0 0, .int .i64 0]
    rw [hsw] at h
    rw [hV1]; exact h
  have hBd1 : Blk V1 bd 37 #[.pointer (some ⟨p, 0, none⟩)] := hBd.kept a1 (hBd.ne_ hBf (by decide))
  have hBn1 : Blk V1 bn 9 #[.string s] := hBn.kept a1 (hBn.ne_ hBf (by decide))
  have hBb1 : Blk V1 bb 22 #[vb] := hBb.kept a1 (hBb.ne_ hBf (by decide))
  have hs1 : Sl V1 vb b := by
    refine hs.keptAll a1 ?_
    rintro i rfl j n e
    rw [hBf.cell] at e
    match j, e with
    | 0, e => cases e
    | j + 1, e => cases e
  have cf0 : W.cell? ⟨bf, 0, none⟩ = some (.pointer none) := by rw [hBf.cell]; rfl
  have ff0 := hBf.frozen 0
  have cf : V1.cell? ⟨bf, 0, none⟩ = some (.pointer (some ⟨W.heap.size, 0, none⟩)) := by rw [hBf1.cell]; rfl
  have cd : V1.cell? ⟨bd, 0, none⟩ = some (.pointer (some ⟨p, 0, none⟩)) := by rw [hBd1.cell]; rfl
  have cn : V1.cell? ⟨bn, 0, none⟩ = some (.string s) := by rw [hBn1.cell]; rfl
  have cm := hd1.c1
  have hown1 : V1.drew.ownsMap Tryz.prog 9 ptrR m L.length (DE L) := hd1.map.drew
  have hmb : ∀ (g : Nat) (t : TypeId) (cs : Array Value), Blk V1 g t cs → m ≠ g := fun g t cs hg => ownsMap_notcells hd1.map hg
  have HD := Lib.hid hd
  have HD1 := Lib.hid hd1
  have HN := Lib.hid hn
  have HMAY := Lib.hid hmay
  have HR := Lib.hid hr
  have HFEW := Lib.hid hfew
  have HB := Lib.hid hB
  have HLT := Lib.hid hlt
  have HBF := Lib.hid hbf
  have HA1 := Lib.hid a1
  have HS := Lib.hid hs1
  have HMB := Lib.hid hmb
  have hfew' : L.length < maxLen := by unfold maxLen; omega
  have hlen0 : b.length ≤ 16777216 := by have := hd.cap2; omega
  have hHH := Lib.hid (And.intro hBf1 (And.intro hBg1 hBb1))
  clear hd hd1 hn hmay hr hfew hB hlt hbf a1 hBd hBn hBb hs hBd1 hBn1 hs1 hBf hmb hBf1 hBg1 hBb1
  go_enter Tryz.func72, Tryz.ntmps72
  go_wp2_with fail
  rw [← hV1]
  clear cf0 ff0 hV1
  refine wp_region_still_tail 6 hfo (by kernel_rfl) ?_
  simp only [List.take_succ_cons, List.take_zero, List.drop_succ_cons, List.drop_zero]
  change wpStill _ _ V1.drew (fun a' => wpList _ _ _ _ a' V1.drew) _ _
  repeat still_step
  refine wpStill_nil ?_
  refine wpList_mapUpdate_own _ rfl (.tmp 11) (.tmp 12) (.tmp 13) 52 rfl 9 108 strKey Tryz.underlying52 ptrR m L.length (DE L) rfl hown1 hfew' (.string s) (.pointer (some ⟨W.heap.size, 0, none⟩)) (.string s.data.toList) rfl rfl (WideMaps.keyOf_string_mk Tryz.underlying9 hsz) (.lit (.int .i64 ((W.heap.size : Nat) : Int))) [] (ptrR_some _) ?_
  intro V2 hown2 hgr2
  have hk2 : Keep (fun i => i = m) V1 V2 := (Keep.of_below (S := fun i => i = m) (Below.refl V1.heap.size V1).drew).trans (Keep.of_grown (S := fun i => i = m) hgr2 (fun k e => by injection e with e; exact e.symm)) (fun _ h => h) (fun _ _ h => h)
  have hBf2 : Blk V2.drew bf 108 #[.pointer (some ⟨W.heap.size, 0, none⟩)] := Blk.kept (w' := V2) hHH.out.1 hk2 (fun (e : bf = m) => HMB.out _ _ _ hHH.out.1 e.symm)
  have hBg2 : Blk V2.drew W.heap.size 110 #[.slice none 0 0, .int .i64 0] := Blk.kept (w' := V2) hHH.out.2.1 hk2 (fun (e : W.heap.size = m) => HMB.out _ _ _ hHH.out.2.1 e.symm)
  have hBb2 : Blk V2.drew bb 22 #[vb] := Blk.kept (w' := V2) hHH.out.2.2 hk2 (fun (e : bb = m) => HMB.out _ _ _ hHH.out.2.2 e.symm)
  have hs2 : Sl V2.drew vb b := Sl.keptAll (w' := V2) HS.out hk2 (by
    rintro i rfl j n e
    exact map_nocell HD1.out.map e)
  have hkW2 : Keep (fun i => i = m ∨ B ≤ i) W V2.drew := ((HA1.out.trans hk2 (U := fun i => i = m ∨ B ≤ i) (fun i e => .inr (by rw [e]; exact HBF.out)) (fun i _ e => .inl e))).trans (Keep.of_below (S := fun i => i = m ∨ B ≤ i) (Below.refl V2.heap.size V2).drew) (fun _ h => h) (fun _ _ h => h)
  have hown2' : V2.drew.ownsMap Tryz.prog 9 ptrR m (L.length + 1) ((DE L).put (.string s.data.toList) (.lit (.int .i64 ((W.heap.size : Nat) : Int)))) := hown2
  have hsz2 : W.heap.size + 1 ≤ V2.drew.heap.size := by have := hBg2.lt; omega
  clear hown2 hgr2 hk2 cf cd cn cm hown1
  have hown2 := hown2'
  clear hown2'
  have cf : V2.drew.cell? ⟨bf, 0, none⟩ = some (.pointer (some ⟨W.heap.size, 0, none⟩)) := by rw [hBf2.cell]; rfl
  have cb : V2.drew.cell? ⟨bb, 0, none⟩ = some vb := by rw [hBb2.cell]; rfl
  obtain ⟨A2, n2, c2, hvb⟩ := hs2.shape
  rw [hvb] at cb hs2
  have hs' := hs2
  clear hs2
  have q0 : V2.drew.cell? ⟨W.heap.size, 0, none⟩ = some (.slice none 0 0) := by rw [hBg2.cell]; rfl
  have hrow : Own V2.drew 0 5 (.slice none 0 0) [] := Own.nil
  have hlen : ([] : List UInt8).length + b.length ≤ 1000000000 := by simp; omega
  go_wp2_with fail
  refine wp_region_held_drew (S := fun w' => w'.cell? ⟨bf, 0, none⟩ = some (.pointer (some ⟨W.heap.size, 0, none⟩)) ∧ w'.cell? ⟨bb, 0, none⟩ = some (.slice A2 n2 c2)) hfo ⟨cf, cb⟩ (fun hS0 => ?_)
  generalize V2.drew = W2 at hS0 q0 hrow hs' hBf2 hBg2 hBb2 hkW2 hown2 hsz2 cf cb ⊢
  clear cf cb
  refine' wpAnyH_take (i := 0) (oi := ⟨some 14, _, _, _, _, _⟩) (v := _) rfl (by kernel_rfl) (by kernel_rfl) (by kernel_rfl) (fun _ _ _ h => h) (Or.inl ⟨by rfl, ?y0⟩) hS0 ?r0
  case y0 => (intro w' hSw; obtain ⟨s0, s1⟩ := hSw; go_simp; try rfl)
  try simp only [Act.put, List.setIfInBounds_toArray, List.set_cons_zero, List.set_cons_succ]
  refine' wpAnyH_take (i := 1) (oi := ⟨some 15, _, _, _, _, _⟩) (v := _) rfl (by kernel_rfl) (by kernel_rfl) (by kernel_rfl) (fun _ _ _ h => h) (Or.inl ⟨by rfl, ?y1⟩) hS0 ?r1
  case y1 => (intro w' hSw; obtain ⟨s0, s1⟩ := hSw; go_simp; try rfl)
  try simp only [Act.put, List.setIfInBounds_toArray, List.set_cons_zero, List.set_cons_succ]
  refine' wpAnyH_take (i := 2) (oi := ⟨some 16, _, _, _, _, _⟩) (v := _) rfl (by kernel_rfl) (by kernel_rfl) (by kernel_rfl) (fun _ _ _ h => h) (Or.inl ⟨by rfl, ?y2⟩) hS0 ?r2
  case y2 => (intro w' hSw; obtain ⟨s0, s1⟩ := hSw; go_simp; try rfl)
  try simp only [Act.put, List.setIfInBounds_toArray, List.set_cons_zero, List.set_cons_succ]
  refine' wpAnyH_take (i := 3) (oi := ⟨some 17, _, _, _, _, _⟩) (v := _) rfl (by kernel_rfl) (by kernel_rfl) (by kernel_rfl) (fun _ _ _ h => h) (Or.inl ⟨by rfl, ?y3⟩) hS0 ?r3
  case y3 => (intro w' hSw; obtain ⟨s0, s1⟩ := hSw; go_simp; try rfl)
  try simp only [Act.put, List.setIfInBounds_toArray, List.set_cons_zero, List.set_cons_succ]
  refine' wpAnyH_take (i := 5) (oi := ⟨some 19, _, _, _, _, _⟩) (v := _) rfl (by kernel_rfl) (by kernel_rfl) (by kernel_rfl) (fun _ _ _ h => h) (Or.inl ⟨by rfl, ?y5⟩) hS0 ?r5
  case y5 => (intro w' hSw; obtain ⟨s0, s1⟩ := hSw; go_simp; try rfl)
  try simp only [Act.put, List.setIfInBounds_toArray, List.set_cons_zero, List.set_cons_succ]
  refine held_one (i := 4) (by kernel_rfl) rfl (fun K hK => ?_)
  go_simp
  refine hK.out _ _ hS0 (fun _ => ?_)
  clear hK K
  try simp only [Act.put, List.setIfInBounds_toArray, List.set_cons_zero, List.set_cons_succ]
  refine held_one (i := 6) (by kernel_rfl) rfl (fun K hK => ?_)
  refine step_append_bytesA W2 rfl (.tmp 18) (.tmp 19) 22 rfl 0 5 i0 Tryz.underlying22 hi hz0 hz1 hz2 _ _ rfl hrow _ b rfl hs' hlen (Nat.zero_le _) ?_
  intro v3 W3 ho3 hgr3 hloc3
  have hb3 : Below W2.heap.size W2 W3 := (Below.refl _ _).grown hgr3 (Nat.le_refl _) (fun k e => by cases e)
  rw [List.nil_append] at ho3
  have hBf3 := hBf2.below hb3 hBf2.lt
  have hBb3 := hBb2.below hb3 hBb2.lt
  have hBg3 := hBg2.below hb3 hBg2.lt
  have hS3 : W3.cell? ⟨bf, 0, none⟩ = some (.pointer (some ⟨W.heap.size, 0, none⟩)) ∧ W3.cell? ⟨bb, 0, none⟩ = some (.slice A2 n2 c2) := ⟨by rw [hBf3.cell]; rfl, by rw [hBb3.cell, hvb]; rfl⟩
  have z0 := hBg3.frozen 0
  have z1 : W3.cell? ⟨W.heap.size, 0, none⟩ = some (.slice none 0 0) := by rw [hBg3.cell]; rfl
  obtain ⟨A3, n3, c3, rfl⟩ := ho3.shape
  have hS4 : (W3.setCell ⟨W.heap.size, 0, none⟩ (.slice A3 n3 c3)).cell? ⟨bf, 0, none⟩ = some (.pointer (some ⟨W.heap.size, 0, none⟩)) ∧ (W3.setCell ⟨W.heap.size, 0, none⟩ (.slice A3 n3 c3)).cell? ⟨bb, 0, none⟩ = some (.slice A2 n2 c2) := ⟨by rw [(hBf3.far (hBf3.ne_ hBg3 (by decide)) _).cell]; rfl, by rw [(hBb3.far (hBb3.ne_ hBg3 (by decide)) _).cell, hvb]; rfl⟩
  have hT : Turn B W p m L S (insP (s.data.toList, b, 0) (plain L)) (W3.setCell ⟨W.heap.size, 0, none⟩ (.slice A3 n3 c3)) := by
    obtain ⟨f', hf'⟩ : ∃ f' : Fo, f' = ⟨s.data.toList, b, 0, W.heap.size, .slice A3 n3 c3⟩ := ⟨_, rfl⟩
    have hv3 : ∀ i, (Value.slice A3 n3 c3).ownBlock = some i → W2.heap.size ≤ i := fun i hi => by
      rcases hloc3 with e | e
      · rw [e] at hi; cases hi
      · rw [e] at hi; injection hi with hi; omega
    have hne : (Value.slice A3 n3 c3).ownBlock ≠ some W.heap.size := fun e => by have := hv3 _ e; omega
    have hm3 : (W3.setCell ⟨W.heap.size, 0, none⟩ (.slice A3 n3 c3)).ownsMap Tryz.prog 9 ptrR m (L.length + 1) (DE (ins f' L)) := by
      have e1 : (DE L).put (.string s.data.toList) (.lit (.int .i64 ((W.heap.size : Nat) : Int))) = DE (ins f' L) := by
        have := put_DE L f'
        rw [del_none (L := L) (n := f'.nm) (by rw [hf']; exact HN.out)] at this
        rw [← this, hf']
      rw [e1] at hown2
      have k2 : Keep (fun _ => False) W2 W3 := .of_below hb3
      have h3 := ownsMap_kept hown2 k2 (fun h => h)
      exact ownsMap_kept h3 (Keep.setCell (S := fun i => i = W.heap.size) W3 ⟨W.heap.size, 0, none⟩ _ rfl) (fun e => by have := HD.out.map.lt; omega)
    have hkk : Keep (fun i => i = m ∨ B ≤ i) W (W3.setCell ⟨W.heap.size, 0, none⟩ (.slice A3 n3 c3)) :=
      (hkW2.trans (Keep.of_below (S := fun i => i = m ∨ B ≤ i) hb3) (fun _ h => h) (fun _ _ h => h)).trans (Keep.setCell (S := fun i => i = m ∨ B ≤ i) W3 ⟨W.heap.size, 0, none⟩ _ (.inr HB.out)) (fun _ h => h) (fun _ _ h => h)
    have hFo : FoAt (W3.setCell ⟨W.heap.size, 0, none⟩ (.slice A3 n3 c3)) f' := by
      rw [hf']
      exact ⟨hBg3.set_ 0 _, ho3.keep fun k hk => Below.heap_setCell _ _ _ k (fun e => hne (by rw [hk]; exact congrArg some e)), Nat.zero_le _, HMAY.out⟩
    have hgB : B ≤ f'.g := by rw [hf']; exact HB.out
    have hvB : ∀ i, f'.v.ownBlock = some i → B ≤ i := fun i hi => by rw [hf'] at hi; have := hv3 i hi; have := HB.out; omega
    refine ⟨ins f' L, by rw [ins_plain, hf']; rfl, HD.out.more (B := B) (by rw [hf']; exact find_none.1 HN.out) HLT.out hgB hvB hkk hm3 hFo (by rw [hf']; exact HR.out) HFEW.out, hkk.mono (fun i h => h.elim (fun e => .inl (.inr (.inl e))) .inr), Foot.more hgB hvB⟩
  have HT := Lib.hid hT
  clear hT hBg3 hb3 hgr3 hloc3 ho3 hrow hs' hlen hBf3 hBb3 hBf2 hBb2 hBg2 hkW2 hown2
  refine hK.out _ _ hS3 (fun _ => ?_)
  clear hK K
  try simp only [Act.put, List.setIfInBounds_toArray, List.set_cons_zero, List.set_cons_succ]
  refine' wpAnyH_take (i := 7) (oi := ⟨some 21, _, _, _, _, _⟩) (v := _) rfl (by kernel_rfl) (by kernel_rfl) (by kernel_rfl) (fun _ _ _ h => h) (Or.inl ⟨by rfl, ?y7⟩) hS3 ?r7
  case y7 => (intro w' hSw; obtain ⟨s0, s1⟩ := hSw; go_simp; try rfl)
  try simp only [Act.put, List.setIfInBounds_toArray, List.set_cons_zero, List.set_cons_succ]
  refine' wpAnyH_take (i := 8) (oi := ⟨some 22, _, _, _, _, _⟩) (v := _) rfl (by kernel_rfl) (by kernel_rfl) (by kernel_rfl) (fun _ _ _ h => h) (Or.inl ⟨by rfl, ?y8⟩) hS3 ?r8
  case y8 => (intro w' hSw; obtain ⟨s0, s1⟩ := hSw; go_simp; try rfl)
  try simp only [Act.put, List.setIfInBounds_toArray, List.set_cons_zero, List.set_cons_succ]
  refine held_one (i := 9) (by kernel_rfl) rfl (fun K hK => ?_)
  go_simp
  refine hK.out _ _ hS4 (fun _ => ?_)
  clear hK K
  try simp only [Act.put, List.setIfInBounds_toArray, List.set_cons_zero, List.set_cons_succ]
  refine wpAnyH_done (by kernel_rfl) ?_ _
  go_wp2
  go_end0
  exact ⟨rfl, HT.out⟩
end
end Go.Proofs.YtibifnknkphanaaGreatDoor

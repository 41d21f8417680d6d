/-
  Files: the names in order; rows of names and of numbers.
-/
import Derived.Test.YtibifnknkphanaaGreatDoorDskCutA
import Derived.Test.YtibifnknkphanaaGreatDoorDskIter
namespace Go.Proofs.YtibifnknkphanaaGreatDoor
open Go.RowKit Go.Maps
open DskM
set_option linter.unusedVariables false
set_option linter.unusedSimpArgs false

theorem lt_iff : ∀ a b : List UInt8, bytesBefore a b = true ↔ a < b
  | [], [] => by simp [bytesBefore]
  | [], _ :: _ => by simp [bytesBefore]
  | _ :: _, [] => by simp [bytesBefore]
  | a :: r, b :: s => by
    have ih := lt_iff r s
    rw [List.cons_lt_cons_iff, bytesBefore]
    simp [ih]
theorem sorted_names {L : List Fo} (h : Rise L) {ss : List (List UInt8)} (hp : ss.Perm (L.map Fo.nm)) : ss.mergeSort (fun x y => decide (x ≤ y)) = L.map Fo.nm := by
  refine (mergeSort_of_perm hp).trans (List.mergeSort_of_pairwise ?_)
  have h1 := rise_iff.1 h
  refine h1.imp fun {a b} hab => ?_
  rw [decide_eq_true_iff]
  exact Std.le_of_lt ((lt_iff a b).1 hab)

/-- Numbers as cells. -/
def iv (n : Nat) : Value := .int .i64 (n : Int)
theorem info_int : (Tryz.prog.info? 3).map (fun i => (i.zero, i.size, i.bytes)) = some (some (.int .i64 0), 1, 8) := by kernel_rfl
/-- A row of numbers of the call's own. -/
def OwnI (w : World) (base : Nat) (v : Value) (l : List Nat) : Prop := w.ownsRow base 3 1 v l.length (l.map iv)
theorem OwnI.nil {w : World} {base : Nat} : OwnI w base (.slice none 0 0) [] := World.ownsRow_nil w base _ 1
theorem OwnI.keep {w w' : World} {base : Nat} {v : Value} {l : List Nat} (h : OwnI w base v l) (hk : ∀ k, v.ownBlock = some k → w'.heap[k]? = w.heap[k]?) : OwnI w' base v l := by
  refine ⟨h.1, ?_⟩
  rcases h.2 with h2 | ⟨g, cap, cur, rfl, hg, hh, r⟩
  · exact Or.inl h2
  · exact Or.inr ⟨g, cap, cur, rfl, hg, (hk g rfl).trans hh, r⟩
theorem OwnI.lt {w : World} {base : Nat} {v : Value} {l : List Nat} (h : OwnI w base v l) : ∀ k, v.ownBlock = some k → base ≤ k ∧ k < w.heap.size := World.ownsRow.lt h
theorem OwnI.isRow {w : World} {base : Nat} {v : Value} {l : List Nat} (h : OwnI w base v l) {i : Nat} (hi : v.ownBlock = some i) : ∃ cs, Blk w i 3 cs := by
  rcases h.2 with ⟨rfl, _⟩ | ⟨g, cap, cur, rfl, _, hh, _⟩
  · cases hi
  · simp [Value.ownBlock] at hi
    subst hi
    exact ⟨cur, hh⟩
theorem OwnI.shape {w : World} {base : Nat} {v : Value} {l : List Nat} (h : OwnI w base v l) : ∃ A c, v = .slice A l.length c := by
  rcases h.2 with ⟨rfl, h0⟩ | ⟨g, cap, cur, rfl, _⟩
  · exact ⟨none, 0, by rw [h0]⟩
  · exact ⟨_, cap, rfl⟩
/-- A number appended, as one step of a region that draws. -/
theorem step_append_num {P : Program} (w : World) {ops : Array Oper} {o : Oper} {a : Act} {K : Act → World → Prop} {Q : Exit → Act → World → Prop} {E : Prop} (hgd : o.guard = none) (s x : Operand) (t : TypeId)
    (ho : o.op = .call { callee := .builtin .append, args := #[s, x], argTypes := #[t, t] })
    (base : Nat) (i : TypeInfo) (ht : P.underlying t = some (.slice 3)) (hi : P.info? 3 = some i) (hz : i.zero = some (.int .i64 0))
    (hsize : i.size = 1) (hby : i.bytes = 8) (v : Value) (l : List Nat) (hs : a.eval s = v) (hown : OwnI w base v l)
    (b : Nat) (c : Nat) (n : Nat) (hx : a.eval x = .slice (some ⟨b, 0, none⟩) 1 c) (hc : w.cell? ⟨b, 0, none⟩ = some (iv n)) (hlen : l.length ≤ 1000000) (hbase : base ≤ w.heap.size)
    (h : ∀ v' w', OwnI w' base v' (l ++ [n]) → w.grownBy w' v.ownBlock → (v'.ownBlock = v.ownBlock ∨ v'.ownBlock = some w.heap.size) → K (a.put o.dst v') w') : if Region.wanted o (yielded ops a.tmps) = true then Oper.wp P o a w K Q else E := by
  have hw : Region.wanted o (yielded ops a.tmps) = true := by simp [Region.wanted, hgd]
  rw [if_pos hw]
  obtain ⟨v', w', hr, h2, h3, _, h5⟩ := run_append_own_at (P := P) w base t o.type 3 i (.int .i64 0) 1 8 ht hi hz hsize hby rfl (by decide) v l.length (l.map iv) hown ⟨b, 0, none⟩ 1 c [iv n] rfl
    (by intro j u hu; match j, hu with | 0, hu => (injection hu with hu; subst hu; exact hc) | j + 1, hu => cases hu) (by intro u hu; rw [List.mem_singleton] at hu; subst hu; rfl) (by unfold maxLen; omega) (by omega) hbase
  unfold Oper.wp execOp
  simp only [ho, resolve, invoke, builtin, Sem.run_bind, Sem.run_pure, Result.andThen_ok, List.map_toArray, List.map_cons, List.map_nil, hs, hx, hr]
  exact h v' w' (by unfold OwnI; rw [List.length_append, List.map_append]; exact h2) h3 h5
end Go.Proofs.YtibifnknkphanaaGreatDoor

namespace Go.Proofs.YtibifnknkphanaaGreatDoor
open Go.RowKit Go.Maps Go.Shelf
open DskM
set_option linter.unusedVariables false
set_option linter.unusedSimpArgs false
set_option maxRecDepth 20000

/-- What Files has noted: names and sizes. -/
def Noted (w : World) (b1 b2 base : Nat) (N : List Nm) (Z : List Nat) : Prop :=
  ∃ v1 v2, Blk w b1 128 #[v1] ∧ Blk w b2 35 #[v2] ∧ w.ownsRow base 9 1 v1 N.length (N.map encStr) ∧ OwnI w base v2 Z
theorem row_shape {w : World} {base : Nat} {e : TypeId} {v : Value} {n : Nat} {xs : List Value} (h : w.ownsRow base e 1 v n xs) : ∃ A c, v = .slice A n c := by
  rcases h.2 with ⟨rfl, h0⟩ | ⟨g, cap, cur, rfl, _⟩
  · exact ⟨none, 0, by rw [h0]⟩
  · exact ⟨_, cap, rfl⟩
section
variable {w w' : World} {p m : Nat} {S S' : Ds} {L : List Fo}
set_option maxHeartbeats 8000000 in
theorem files_any (h : Dk w p m S L) :
    Calls Tryz.prog 35 #[.pointer (some ⟨p, 0, none⟩)] w fun e w' => e = .returned (.func (.func 89) #[] #[.pointer (some ⟨w.heap.size, 0, none⟩), .pointer (some ⟨w.heap.size + 1, 0, none⟩)]) ∧ Noted w' w.heap.size (w.heap.size + 1) w.heap.size (L.map Fo.nm) (L.map fun f => f.bs.length) ∧ Below w.heap.size w w' := by
  have hfo : Tryz.prog.follows .mixedOrders = true := by kernel_rfl
  obtain ⟨i0, hi, hy0, hy1, hy2⟩ := info_parts info_int
  have hb0 : Below w.heap.size w ((w.alloc (.cells #[.slice none 0 0] 128)).alloc (.cells #[.slice none 0 0] 35)) := ((Below.refl _ _).alloc (Nat.le_refl _) _).alloc (by simp) _
  have hB1 := (Blk.new w 128 #[.slice none 0 0]).alloc (.cells #[.slice none 0 0] 35)
  have hB2 := Blk.new (w.alloc (.cells #[.slice none 0 0] 128)) 35 #[.slice none 0 0]
  rw [show (w.alloc (.cells #[.slice none 0 0] 128)).heap.size = w.heap.size + 1 by simp] at hB2
  have hd0 := h.below hb0
  have hn := none_any hd0
  have c1 := hd0.c1
  have hmax : Maps.size (DE L) ≤ maxLen := by rw [size_DE]; have := h.few; unfold maxLen; omega
  have hbytes : Maps.size (DE L) * 16 ≤ 140737488355328 := by rw [size_DE]; have := h.few; omega
  have hso := callsIn_wide.1 (Tryz.sorted_keys m L.length (DE L) ptrR _ hd0.map hmax hbytes)
  rw [show ((w.alloc (.cells #[.slice none 0 0] 128)).alloc (.cells #[.slice none 0 0] 35)).heap.size = w.heap.size + 1 + 1 by simp] at hso
  have hke := callsIn_wide.1 (Tryz.keys_any (some m) ((w.alloc (.cells #[.slice none 0 0] 128)).alloc (.cells #[.slice none 0 0] 35)))
  have H := Lib.hid h
  have HFT := Lib.hid h.lt
  have HB0 := Lib.hid hb0
  have HL := Lib.hid h.few
  clear h hmax hbytes
  go_enter Tryz.func35, Tryz.ntmps35
  go_wp2_with fail
  refine hn.mono ?_
  rintro e w1 ⟨rfl, rfl⟩
  go_wp2_with fail
  refine hke.mono ?_
  rintro e w2 ⟨rfl, rfl⟩
  go_wp2_with fail
  refine hso.mono ?_
  rintro e w3 ⟨v, ss, rfl, hp, hrow, hnil, hb3⟩
  have hsl : ss.length = L.length := by have := hp.length_eq; rw [keys_DE, List.length_map] at this; exact this
  rw [keys_DE] at hp
  rw [sorted_names H.out.rise hp, hsl] at hrow
  obtain ⟨A1, cA1, rfl⟩ := row_shape hrow
  have hbb : Below ((w.alloc (.cells #[.slice none 0 0] 128)).alloc (.cells #[.slice none 0 0] 35)).heap.size ((w.alloc (.cells #[.slice none 0 0] 128)).alloc (.cells #[.slice none 0 0] 35)) w3 := ((Below.refl _ _).alloc (Nat.le_refl _) _).trans (hb3.mono (by simp))
  have hC1 := hB1.below hbb hB1.lt
  have hC2 := hB2.below hbb hB2.lt
  have hbw3 := HB0.out.trans (hbb.mono HB0.out.size)
  have z1 : w3.cell? ⟨w.heap.size, 0, none⟩ = some (.slice none 0 0) := by rw [hC1.cell]; rfl
  have f1 := hC1.frozen 0
  have hz3 : w.heap.size + 3 ≤ w3.heap.size := by have := hb3.size; simp at this; omega
  have hrb : ∀ i, (Value.slice A1 L.length cA1).ownBlock = some i → w.heap.size + 3 ≤ i ∧ i < w3.heap.size := fun i hi => by have := World.ownsRow.lt hrow i hi; simp at this; omega
  obtain ⟨V1, hV1⟩ : ∃ V1, V1 = w3.setCell ⟨w.heap.size, 0, none⟩ (.slice A1 L.length cA1) := ⟨_, rfl⟩
  have hE1 : Blk V1 w.heap.size 128 #[.slice A1 L.length cA1] := by rw [hV1]; exact hC1.set_ 0 _
  have hE2 : Blk V1 (w.heap.size + 1) 35 #[.slice none 0 0] := by rw [hV1]; exact hC2.far (fun e => by have e : w.heap.size + 1 = w.heap.size := e; omega) _
  have hrow1 : V1.ownsRow w.heap.size 9 1 (.slice A1 L.length cA1) L.length ((L.map Fo.nm).map encStr) := by
    rw [hV1]
    refine ⟨hrow.1, ?_⟩
    rcases hrow.2 with h2 | ⟨g, cap, cur, e, hg, hh, r⟩
    · exact Or.inl h2
    · refine Or.inr ⟨g, cap, cur, e, by simp at hg; omega, (Below.heap_setCell _ _ _ g (fun e2 => ?_)).trans hh, r⟩
      have e2 : w.heap.size = g := e2.symm
      simp at hg; omega
  have hbV : Below w.heap.size w V1 := by rw [hV1]; exact hbw3.setCell (p := ⟨w.heap.size, 0, none⟩) (Nat.le_refl _) _
  have hVz : V1.heap.size = w3.heap.size := by rw [hV1]; simp [World.setCell]
  obtain ⟨B, hB⟩ : ∃ B, B = V1.heap.size := ⟨_, rfl⟩
  have HV := Lib.hid hV1
  have HRB := Lib.hid hrb
  have HBV := Lib.hid hbV
  have HE1 := Lib.hid hE1
  have HROW := Lib.hid hrow1
  have hBz3 : w.heap.size + 3 ≤ B := by omega
  have hBv : B = w3.heap.size := by omega
  clear hn hke hso hd0 c1 hp hsl hnil hb3 hbb hC1 hC2 hbw3 hB1 hB2 hb0 hrow hrow1 hrb hE1 hbV
  go_wp2_with fail
  rw [← HV.out]
  go_loopw [18] (fun z wr => ∃ k : Nat, z = .int .i64 (k : Int) ∧ k ≤ L.length ∧ ∃ v2, Blk wr (w.heap.size + 1) 35 #[v2] ∧ OwnI wr B v2 ((L.take k).map fun f => f.bs.length) ∧ Keep (fun i => i = w.heap.size + 1 ∨ B ≤ i) V1 wr) (fun z _ => L.length - (intOf z).toNat)
  case atStart => exact ⟨0, rfl, Nat.zero_le _, .slice none 0 0, hE2, OwnI.nil, Keep.refl _ _⟩
  case round =>
    clear hE2
    obtain ⟨k, rfl, hk, v2, hBz0, hO0, hK0⟩ := hrel
    have HK := Lib.hid hK0
    have hdr : Dk wr p m S L := ((H.out.below HBV.out).kept hK0 (fun i hi e => by have := HFT.out i hi; omega))
    by_cases hlt : k < L.length
    · obtain ⟨f, hf⟩ : ∃ f, L[k] = f := ⟨_, rfl⟩
      have hfm : f ∈ L := hf ▸ List.getElem_mem hlt
      obtain ⟨s, hs⟩ : ∃ s : ByteArray, s = ⟨f.nm.toArray⟩ := ⟨_, rfl⟩
      have hsn : s.data.toList = f.nm := by rw [hs]
      have hsz : s.size ≤ maxLen := by
        have h1 := (H.out.file f hfm).may
        rw [← hsn] at h1
        have := may_size h1; unfold maxLen; omega
      obtain ⟨g1, rfl, hg1⟩ : ∃ g1, A1 = some ⟨g1, 0, none⟩ ∧ V1.cell? ⟨g1, k, none⟩ = some (.string s) := by
        rcases HROW.out.2 with ⟨e, h0⟩ | ⟨g1, cap, cur, e, _⟩
        · omega
        · injection e with e1 _ e3
          subst e1; subst e3
          refine ⟨g1, rfl, ?_⟩
          rw [World.ownsRow.cellAt HROW.out k (by omega)]
          simp [hf, encStr, hs, hlt]
      have hgb := HRB.out g1 rfl
      have hname : wr.cell? ⟨g1, k, none⟩ = some (.string s) := hK0.cell hg1 (fun e => by
        have e : g1 = w.heap.size + 1 ∨ B ≤ g1 := e
        omega)
      obtain ⟨A, q, c, hvv⟩ := (H.out.file f hfm).row.shape
      obtain rfl : q = f.bs.length := by have := (H.out.file f hfm).row.sl; rw [hvv] at this; exact this.len
      have FACTS := Lib.hid (show ∀ X : World, Dk X p m S L → X.cell? ⟨p, 1, none⟩ = some (.map (some m)) ∧ (Instr.lookup 52 (.map (some m)) (.string s) false).run Tryz.prog X = .ok (.pointer (some ⟨f.g, 0, none⟩)) X ∧ X.cell? ⟨f.g, 0, none⟩ = some (.slice A f.bs.length c) from
        fun X hd => ⟨hd.c1, by have h1 := hd.look s hsz; rw [hsn, find_of_mem hd.rise hfm] at h1; exact h1, by have h1 := (hd.file f hfm).c0; rw [hvv] at h1; exact h1⟩)
      obtain ⟨Z, hZ⟩ : ∃ Z, Z = (L.take k).map fun f => f.bs.length := ⟨_, rfl⟩
      have HZ1 := Lib.hid (show ((L.take (k + 1)).map fun f => f.bs.length) = Z ++ [f.bs.length] by rw [List.take_succ_eq_append_getElem hlt, List.map_append, hZ, hf]; rfl)
      rw [← hZ] at hO0
      have hZl : Z.length ≤ 64 := by rw [hZ, List.length_map, List.length_take]; have := HL.out; omega
      obtain ⟨A2, c2, rfl⟩ := hO0.shape
      have hkb : (k : Int) ≤ 64 := by have := HL.out; omega
      have HLT := Lib.hid hlt
      have hil : (k : Int) < (L.length : Int) := by omega
      have hk0 : (0 : Int) ≤ (k : Int) := by omega
      have hz4 := hK0.size
      clear hs hsn hsz hg1 hvv hZ hK0 hf hfm
      go_wp2_with fail
      refine wp_region_held_drew (S := fun w' => w'.cell? ⟨p, 1, none⟩ = some (.map (some m)) ∧ (Instr.lookup 52 (.map (some m)) (.string s) false).run Tryz.prog w' = .ok (.pointer (some ⟨f.g, 0, none⟩)) w' ∧ w'.cell? ⟨f.g, 0, none⟩ = some (.slice A f.bs.length c)) hfo (FACTS.out _ (hdr.below (Below.refl _ _).drew)) (fun hS0 => ?_)
      have hbw : Below wr.heap.size wr wr.drew := (Below.refl _ _).drew
      have hBz : Blk wr.drew (w.heap.size + 1) 35 #[.slice A2 Z.length c2] := hBz0.drew
      have hown : OwnI wr.drew B (.slice A2 Z.length c2) Z := hO0
      have hd2 := hdr.below hbw
      have hsz2 : wr.drew.heap.size = wr.heap.size := rfl
      clear hBz0 hO0 hdr hname
      generalize wr.drew = W2 at hS0 hbw hBz hown hd2 hsz2 ⊢
      have HD2 := Lib.hid hd2
      have HO := Lib.hid hown
      have hown1 : OwnI (W2.alloc (.cells #[iv f.bs.length] 3)) B (.slice A2 Z.length c2) Z := World.ownsRow.alloc hown _
      have hcel : (W2.alloc (.cells #[iv f.bs.length] 3)).cell? ⟨W2.heap.size, 0, none⟩ = some (iv f.bs.length) := (Blk.new W2 3 #[iv f.bs.length]).cell 0
      have hlen : Z.length ≤ 1000000 := by omega
      have hbase : B ≤ (W2.alloc (.cells #[iv f.bs.length] 3)).heap.size := by simp; omega
      have hS1 := FACTS.out _ (hd2.below ((Below.refl W2.heap.size W2).alloc (Nat.le_refl _) (.cells #[iv f.bs.length] 3)))
      have cz : W2.cell? ⟨w.heap.size + 1, 0, none⟩ = some (.slice A2 Z.length c2) := by rw [hBz.cell]; rfl
      clear hd2 hown hsz2
      refine' wpAnyH_take (i := 1) (oi := ⟨some 23, _, _, _, _, _⟩) (v := _) rfl (by kernel_rfl) (by kernel_rfl) (by kernel_rfl) (fun _ _ _ h => h) (Or.inl ⟨by rfl, ?y1⟩) hS0 ?r1
      case y1 => (intro w' hSw; obtain ⟨s0, s1, s2⟩ := hSw; go_simp; try rfl)
      try simp only [Act.put, List.setIfInBounds_toArray, List.set_cons_zero, List.set_cons_succ]
      refine' wpAnyH_take (i := 2) (oi := ⟨some 24, _, _, _, _, _⟩) (v := _) rfl (by kernel_rfl) (by kernel_rfl) (by kernel_rfl) (fun _ _ _ h => h) (Or.inl ⟨by rfl, ?y2⟩) hS0 ?r2
      case y2 => (intro w' hSw; obtain ⟨s0, s1, s2⟩ := hSw; go_simp; try rfl)
      try simp only [Act.put, List.setIfInBounds_toArray, List.set_cons_zero, List.set_cons_succ]
      refine' wpAnyH_take (i := 3) (oi := ⟨some 25, _, _, _, _, _⟩) (v := _) rfl (by kernel_rfl) (by kernel_rfl) (by kernel_rfl) (fun _ _ _ h => h) (Or.inl ⟨by rfl, ?y3⟩) hS0 ?r3
      case y3 => (intro w' hSw; obtain ⟨s0, s1, s2⟩ := hSw; go_simp; try rfl)
      try simp only [Act.put, List.setIfInBounds_toArray, List.set_cons_zero, List.set_cons_succ]
      refine' wpAnyH_take (i := 5) (oi := ⟨some 27, _, _, _, _, _⟩) (v := _) rfl (by kernel_rfl) (by kernel_rfl) (by kernel_rfl) (fun _ _ _ h => h) (Or.inl ⟨by rfl, ?y5⟩) hS0 ?r5
      case y5 => (intro w' hSw; obtain ⟨s0, s1, s2⟩ := hSw; go_simp; try rfl)
      try simp only [Act.put, List.setIfInBounds_toArray, List.set_cons_zero, List.set_cons_succ]
      refine' wpAnyH_take (i := 4) (oi := ⟨some 26, _, _, _, _, _⟩) (v := _) rfl (by kernel_rfl) (by kernel_rfl) (by kernel_rfl) (fun _ _ _ h => h) (Or.inl ⟨by rfl, ?y4⟩) hS0 ?r4
      case y4 => (intro w' hSw; obtain ⟨s0, s1, s2⟩ := hSw; go_simp; try rfl)
      try simp only [Act.put, List.setIfInBounds_toArray, List.set_cons_zero, List.set_cons_succ]
      refine' wpAnyH_take (i := 6) (oi := ⟨some 28, _, _, _, _, _⟩) (v := _) rfl (by kernel_rfl) (by kernel_rfl) (by kernel_rfl) (fun _ _ _ h => h) (Or.inl ⟨by rfl, ?y6⟩) hS0 ?r6
      case y6 => (intro w' hSw; obtain ⟨s0, s1, s2⟩ := hSw; go_simp; try rfl)
      try simp only [Act.put, List.setIfInBounds_toArray, List.set_cons_zero, List.set_cons_succ]
      refine' wpAnyH_take (i := 7) (oi := ⟨some 29, _, _, _, _, _⟩) (v := _) rfl (by kernel_rfl) (by kernel_rfl) (by kernel_rfl) (fun _ _ _ h => h) (Or.inl ⟨by rfl, ?y7⟩) hS0 ?r7
      case y7 => (intro w' hSw; obtain ⟨s0, s1, s2⟩ := hSw; go_simp; try rfl)
      try simp only [Act.put, List.setIfInBounds_toArray, List.set_cons_zero, List.set_cons_succ]
      refine' wpAnyH_take (i := 8) (oi := ⟨some 30, _, _, _, _, _⟩) (v := _) rfl (by kernel_rfl) (by kernel_rfl) (by kernel_rfl) (fun _ _ _ h => h) (Or.inl ⟨by rfl, ?y8⟩) hS0 ?r8
      case y8 => (intro w' hSw; obtain ⟨s0, s1, s2⟩ := hSw; go_simp; try rfl)
      try simp only [Act.put, List.setIfInBounds_toArray, List.set_cons_zero, List.set_cons_succ]
      refine' wpAnyH_take (i := 9) (oi := ⟨some 31, _, _, _, _, _⟩) (v := _) rfl (by kernel_rfl) (by kernel_rfl) (by kernel_rfl) (fun _ _ _ h => h) (Or.inl ⟨by rfl, ?y9⟩) hS0 ?r9
      case y9 => (intro w' hSw; obtain ⟨s0, s1, s2⟩ := hSw; go_simp; try rfl)
      try simp only [Act.put, List.setIfInBounds_toArray, List.set_cons_zero, List.set_cons_succ]
      refine' wpAnyH_take (i := 10) (oi := ⟨some 32, _, _, _, _, _⟩) (v := _) rfl (by kernel_rfl) (by kernel_rfl) (by kernel_rfl) (fun _ _ _ h => h) (Or.inl ⟨by rfl, ?y10⟩) hS0 ?r10
      case y10 => (intro w' hSw; obtain ⟨s0, s1, s2⟩ := hSw; go_simp; try rfl)
      try simp only [Act.put, List.setIfInBounds_toArray, List.set_cons_zero, List.set_cons_succ]
      refine held_two (i := 0) (j := 11) (by kernel_rfl) rfl rfl (fun K hK => ?_) (fun K hK => ?_)
      case' r10.refine_1 =>
        go_simp
        refine hK.out _ _ hS0 (fun _ => ?_)
        clear hK K
        try simp only [Act.put, List.setIfInBounds_toArray, List.set_cons_zero, List.set_cons_succ]
        refine held_one (i := 11) (by kernel_rfl) rfl (fun K hK => ?_)
        go_simp
        refine hK.out _ _ hS1 (fun _ => ?_)
        clear hK K
        try simp only [Act.put, List.setIfInBounds_toArray, List.set_cons_zero, List.set_cons_succ]
        refine held_one (i := 12) (by kernel_rfl) rfl (fun K hK => ?_)
        refine step_append_num _ rfl (.tmp 22) (.tmp 33) 35 rfl B i0 Tryz.underlying35 hi hy0 hy1 hy2 (.slice A2 Z.length c2) Z rfl hown1 W2.heap.size 1 f.bs.length rfl hcel hlen hbase ?_
        intro v4 W4 ho4 hgr4 hloc4
        have hk4 : Keep (fun i => (Value.slice A2 Z.length c2).ownBlock = some i) W2 W4 := (Keep.of_below (S := fun i => (Value.slice A2 Z.length c2).ownBlock = some i) ((Below.refl W2.heap.size W2).alloc (Nat.le_refl _) (.cells #[iv f.bs.length] 3))).trans (Keep.of_grown (S := fun i => (Value.slice A2 Z.length c2).ownBlock = some i) hgr4 (fun k e => e)) (fun _ h => h) (fun _ _ h => h)
        have hrb : ∀ i, (Value.slice A2 Z.length c2).ownBlock = some i → B ≤ i := fun i hi => (HO.out.lt i hi).1
        have hbz4 : Blk W4 (w.heap.size + 1) 35 #[.slice A2 Z.length c2] := hBz.kept hk4 (fun e => by have := hrb _ e; omega)
        have hd4 := HD2.out.kept hk4 (fun i hi e => by have := hrb _ e; have := HFT.out i hi; omega)
        have hS4 := FACTS.out W4 hd4
        have z0 := hbz4.frozen 0
        have z1 : W4.cell? ⟨w.heap.size + 1, 0, none⟩ = some (.slice A2 Z.length c2) := by rw [hbz4.cell]; rfl
        obtain ⟨A4, c4, e4⟩ := ho4.shape
        rw [show (Z ++ [f.bs.length]).length = Z.length + 1 by simp] at e4
        subst e4
        have hkz : Keep (fun i => i = w.heap.size + 1) W4 (W4.setCell ⟨w.heap.size + 1, 0, none⟩ (.slice A4 (Z.length + 1) c4)) := Keep.setCell _ _ _ rfl
        have hd5 := hd4.kept hkz (fun i hi e => by have := HFT.out i hi; omega)
        have hS5 := FACTS.out _ hd5
        have hN : Blk (W4.setCell ⟨w.heap.size + 1, 0, none⟩ (.slice A4 (Z.length + 1) c4)) (w.heap.size + 1) 35 #[.slice A4 (Z.length + 1) c4] ∧ OwnI (W4.setCell ⟨w.heap.size + 1, 0, none⟩ (.slice A4 (Z.length + 1) c4)) B (.slice A4 (Z.length + 1) c4) ((L.take (k + 1)).map fun f => f.bs.length) ∧ Keep (fun i => i = w.heap.size + 1 ∨ B ≤ i) V1 (W4.setCell ⟨w.heap.size + 1, 0, none⟩ (.slice A4 (Z.length + 1) c4)) := by
          refine ⟨hbz4.set_ 0 _, ?_, ?_⟩
          · rw [HZ1.out]
            refine ho4.keep fun i hi => Below.heap_setCell _ _ _ i (fun e => ?_)
            have := (ho4.lt i hi).1
            have e : i = w.heap.size + 1 := e
            omega
          · exact ((HK.out.trans (Keep.of_below (S := fun i => i = w.heap.size + 1 ∨ B ≤ i) hbw) (fun _ h => h) (fun _ _ h => h)).trans hk4 (fun _ h => h) (fun i _ e => .inr (hrb i e))).trans hkz (fun _ h => h) (fun i _ e => .inl e)
        have HN := Lib.hid hN
        clear hN hkz hd4 hd5 hk4 hrb hbz4 ho4 hgr4 hloc4
        refine hK.out _ _ hS4 (fun _ => ?_)
        clear hK K
        try simp only [Act.put, List.setIfInBounds_toArray, List.set_cons_zero, List.set_cons_succ]
        refine held_one (i := 13) (by kernel_rfl) rfl (fun K hK => ?_)
        go_simp
        refine hK.out _ _ hS5 (fun _ => ?_)
        clear hK K
        try simp only [Act.put, List.setIfInBounds_toArray, List.set_cons_zero, List.set_cons_succ]
        refine wpAnyH_done (by kernel_rfl) ?_ _
        go_wp2
        exact ⟨⟨k + 1, by go_num, HLT.out, _, HN.out⟩, by have := HLT.out; simp [intOf]; omega⟩
      case' r10.refine_2 =>
        go_simp
        refine hK.out _ _ hS1 (fun _ => ?_)
        clear hK K
        try simp only [Act.put, List.setIfInBounds_toArray, List.set_cons_zero, List.set_cons_succ]
        have cz2 : (W2.alloc (.cells #[.int .i64 (f.bs.length : Int)] 3)).cell? ⟨w.heap.size + 1, 0, none⟩ = some (.slice A2 Z.length c2) := by rw [(hBz.alloc _).cell]; rfl
        refine held_one (i := 0) (by kernel_rfl) rfl (fun K hK => ?_)
        go_simp
        refine hK.out _ _ hS1 (fun _ => ?_)
        clear hK K
        try simp only [Act.put, List.setIfInBounds_toArray, List.set_cons_zero, List.set_cons_succ]
        refine held_one (i := 12) (by kernel_rfl) rfl (fun K hK => ?_)
        refine step_append_num _ rfl (.tmp 22) (.tmp 33) 35 rfl B i0 Tryz.underlying35 hi hy0 hy1 hy2 (.slice A2 Z.length c2) Z rfl hown1 W2.heap.size 1 f.bs.length rfl hcel hlen hbase ?_
        intro v4 W4 ho4 hgr4 hloc4
        have hk4 : Keep (fun i => (Value.slice A2 Z.length c2).ownBlock = some i) W2 W4 := (Keep.of_below (S := fun i => (Value.slice A2 Z.length c2).ownBlock = some i) ((Below.refl W2.heap.size W2).alloc (Nat.le_refl _) (.cells #[iv f.bs.length] 3))).trans (Keep.of_grown (S := fun i => (Value.slice A2 Z.length c2).ownBlock = some i) hgr4 (fun k e => e)) (fun _ h => h) (fun _ _ h => h)
        have hrb : ∀ i, (Value.slice A2 Z.length c2).ownBlock = some i → B ≤ i := fun i hi => (HO.out.lt i hi).1
        have hbz4 : Blk W4 (w.heap.size + 1) 35 #[.slice A2 Z.length c2] := hBz.kept hk4 (fun e => by have := hrb _ e; omega)
        have hd4 := HD2.out.kept hk4 (fun i hi e => by have := hrb _ e; have := HFT.out i hi; omega)
        have hS4 := FACTS.out W4 hd4
        have z0 := hbz4.frozen 0
        have z1 : W4.cell? ⟨w.heap.size + 1, 0, none⟩ = some (.slice A2 Z.length c2) := by rw [hbz4.cell]; rfl
        obtain ⟨A4, c4, e4⟩ := ho4.shape
        rw [show (Z ++ [f.bs.length]).length = Z.length + 1 by simp] at e4
        subst e4
        have hkz : Keep (fun i => i = w.heap.size + 1) W4 (W4.setCell ⟨w.heap.size + 1, 0, none⟩ (.slice A4 (Z.length + 1) c4)) := Keep.setCell _ _ _ rfl
        have hd5 := hd4.kept hkz (fun i hi e => by have := HFT.out i hi; omega)
        have hS5 := FACTS.out _ hd5
        have hN : Blk (W4.setCell ⟨w.heap.size + 1, 0, none⟩ (.slice A4 (Z.length + 1) c4)) (w.heap.size + 1) 35 #[.slice A4 (Z.length + 1) c4] ∧ OwnI (W4.setCell ⟨w.heap.size + 1, 0, none⟩ (.slice A4 (Z.length + 1) c4)) B (.slice A4 (Z.length + 1) c4) ((L.take (k + 1)).map fun f => f.bs.length) ∧ Keep (fun i => i = w.heap.size + 1 ∨ B ≤ i) V1 (W4.setCell ⟨w.heap.size + 1, 0, none⟩ (.slice A4 (Z.length + 1) c4)) := by
          refine ⟨hbz4.set_ 0 _, ?_, ?_⟩
          · rw [HZ1.out]
            refine ho4.keep fun i hi => Below.heap_setCell _ _ _ i (fun e => ?_)
            have := (ho4.lt i hi).1
            have e : i = w.heap.size + 1 := e
            omega
          · exact ((HK.out.trans (Keep.of_below (S := fun i => i = w.heap.size + 1 ∨ B ≤ i) hbw) (fun _ h => h) (fun _ _ h => h)).trans hk4 (fun _ h => h) (fun i _ e => .inr (hrb i e))).trans hkz (fun _ h => h) (fun i _ e => .inl e)
        have HN := Lib.hid hN
        clear hN hkz hd4 hd5 hk4 hrb hbz4 ho4 hgr4 hloc4
        refine hK.out _ _ hS4 (fun _ => ?_)
        clear hK K
        try simp only [Act.put, List.setIfInBounds_toArray, List.set_cons_zero, List.set_cons_succ]
        refine held_one (i := 13) (by kernel_rfl) rfl (fun K hK => ?_)
        go_simp
        refine hK.out _ _ hS5 (fun _ => ?_)
        clear hK K
        try simp only [Act.put, List.setIfInBounds_toArray, List.set_cons_zero, List.set_cons_succ]
        refine wpAnyH_done (by kernel_rfl) ?_ _
        go_wp2
        exact ⟨⟨k + 1, by go_num, HLT.out, _, HN.out⟩, by have := HLT.out; simp [intOf]; omega⟩
    · obtain rfl : k = L.length := by omega
      rw [List.take_length] at hO0
      have hNT : Noted wr w.heap.size (w.heap.size + 1) w.heap.size (L.map Fo.nm) (L.map fun f => f.bs.length) := by
        refine ⟨_, v2, HE1.out.kept hK0 (fun e => by have e : w.heap.size = w.heap.size + 1 ∨ B ≤ w.heap.size := e; omega), hBz0, ?_, ?_⟩
        · rw [List.length_map]
          refine ⟨HROW.out.1, ?_⟩
          rcases HROW.out.2 with h2 | ⟨g, cap, cur, e, hg, hh, r⟩
          · exact Or.inl h2
          · have hgb := HRB.out g (by rw [e]; rfl)
            exact Or.inr ⟨g, cap, cur, e, hg, (hK0.block g (by omega) (fun e2 => by have e2 : g = w.heap.size + 1 ∨ B ≤ g := e2; omega)).trans hh, r⟩
        · refine ⟨hO0.1, ?_⟩
          rcases hO0.2 with h2 | ⟨g, cap, cur, e, hg, hh, r⟩
          · exact Or.inl h2
          · exact Or.inr ⟨g, cap, cur, e, by omega, hh, r⟩
      have hbe : Below w.heap.size w wr := Keep.below HBV.out hK0 HBV.out.size (fun i e => by rcases e with e | e <;> omega)
      have HNT := Lib.hid hNT
      clear hlt hk hNT hBz0 hO0 hK0 hdr
      go_wp2
      go_ret
      exact ⟨rfl, HNT.out, hbe⟩
end
end Go.Proofs.YtibifnknkphanaaGreatDoor

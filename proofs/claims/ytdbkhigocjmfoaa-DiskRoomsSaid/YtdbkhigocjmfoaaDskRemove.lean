/-
  The walks of Remove and Rename.
-/
import Derived.Test.YtdbkhigocjmfoaaDskOps
namespace Go.Proofs.Ytdbkhigocjmfoaa
open Go.RowKit Go.Maps
open DskM
set_option linter.unusedVariables false
set_option linter.unusedSimpArgs false
set_option maxRecDepth 20000

section
variable {w w' : World} {p m : Nat} {S S' : Ds} {L : List Fo} {B : Nat}
theorem Dk.keptMap (h : Dk w p m S L) (k : Keep (fun i => i = m) w w') : Blk w' p 63 (dkc S m) ∧ ∀ f ∈ L, FoAt w' f :=
  ⟨h.blk.kept k (fun e => h.ne_map e.symm), fun f hf => (h.file f hf).kept k (fun e => h.fm hf e.symm) (fun i hi e => h.rm hf (e ▸ hi))⟩
theorem total_del_le (L : List Fo) (n : Nm) : total (del L n) ≤ total L := by
  unfold total del
  induction L with
  | nil => simp
  | cons x L ih =>
    by_cases hx : x.nm = n
    · rw [List.filter_cons_of_neg (by simp [hx]), List.map_cons, List.sum_cons]; omega
    · rw [List.filter_cons_of_pos (by simp [hx]), List.map_cons, List.sum_cons, List.map_cons, List.sum_cons]; omega
/-- A file is gone. -/
theorem Dk.less (h : Dk w p m S L) (n : Nm) {q : Nat} (k : Keep (fun i => i = m) w w') (hm : w'.ownsMap Try.prog 9 ptrR m q (DE (del L n))) : Dk w' p m S (del L n) := by
  obtain ⟨hb, hf⟩ := h.keptMap k
  have hx := ownsMap_exact hm
  rw [size_DE] at hx
  refine ⟨hb, hx, rise_del h.rise n, fun f hfm => hf f (mem_del.1 hfm).1, fun f hfm f' hfm' => h.apart f (mem_del.1 hfm).1 f' (mem_del.1 hfm').1, h.cap1, h.cap2, Nat.le_trans (total_del_le L n) h.room, ?_, h.fuse1, h.fuse2⟩
  exact Nat.le_trans (List.length_filter_le _ _) h.few
theorem Foot.less {n : Nm} : ∀ i, Foot p m (del L n) i → Foot p m L i := by
  rintro i (rfl | rfl | ⟨f, hf, hi⟩)
  · exact .inl rfl
  · exact .inr (.inl rfl)
  · exact .inr (.inr ⟨f, (mem_del.1 hf).1, hi⟩)

set_option maxHeartbeats 1000000 in
theorem remove1_any (b1 b2 : Nat) (s : ByteArray) (hs : s.size ≤ maxLen) (W : World) (k1 : W.cell? ⟨b1, 0, none⟩ = some (.pointer (some ⟨p, 0, none⟩))) (k2 : W.cell? ⟨b2, 0, none⟩ = some (.string s)) (hd : Dk W p m S L) :
    Calls Try.prog 60 #[.pointer (some ⟨b1, 0, none⟩), .pointer (some ⟨b2, 0, none⟩)] W fun e W' => e = .returned (.tuple #[]) ∧ Turn B W p m L S (delP (plain L) s.data.toList) W' := by
  have hfo : Try.prog.follows .mixedOrders = true := by kernel_rfl
  have c1 := hd.c1
  have hown : W.drew.ownsMap Try.prog 9 ptrR m L.length (DE L) := hd.map.drew
  have HD := Lib.hid hd
  have HO := Lib.hid hown
  clear hd hown
  go_enter Try.func60, Try.ntmps60
  refine wp_region_still_tail 5 hfo (by kernel_rfl) ?_
  simp only [List.take_succ_cons, List.take_zero, List.drop_succ_cons, List.drop_zero]
  change wpStill _ _ W.drew (fun a' => wpList _ _ _ _ a' W.drew) _ _
  repeat still_step
  refine wpStill_nil ?_
  refine wpList_delete_own _ rfl (.tmp 5) (.tmp 6) 61 9 rfl 75 strKey Try.underlying61 ptrR m L.length (DE L) rfl HO.out (.string s) (.string s.data.toList) rfl (WideMaps.keyOf_string_mk Try.underlying9 hs) ?_
  intro W2 hown2 hturn2
  rw [del_DE] at hown2
  have hk : Keep (fun i => i = m) W W2 := (Keep.of_below (S := fun i => i = m) (Below.refl W.heap.size W).drew).trans (Keep.of_grown (S := fun i => i = m) hturn2.grown (fun k e => by injection e with e; exact e.symm)) (fun _ h => h) (fun _ _ h => h)
  have HT := Lib.hid (show Turn B W p m L S (delP (plain L) s.data.toList) W2 from ⟨del L s.data.toList, del_plain L _, HD.out.less _ hk hown2, hk.mono (fun i e => .inl (.inr (.inl e))), fun i hi => .inl (Foot.less i hi)⟩)
  clear hown2 hturn2 hk
  go_wp2
  go_end0
  exact ⟨rfl, HT.out⟩

set_option maxHeartbeats 1000000 in
theorem remove_any (h : Dk w p m S L) (hw : S.wr ≤ 1000000) (s : ByteArray) :
    Calls Try.prog 40 #[.pointer (some ⟨p, 0, none⟩), .string s] w (Res w p m L (removeS S (plain L) s.data.toList)) := by
  unfold removeS
  have hb0 : Below w.heap.size w ((w.alloc (.cells #[.pointer (some ⟨p, 0, none⟩)] 23)).alloc (.cells #[.string s] 9)) := ((Below.refl _ _).alloc (Nat.le_refl _) _).alloc (by simp) _
  have hB1 := (Blk.new w 23 #[.pointer (some ⟨p, 0, none⟩)]).alloc (.cells #[.string s] 9)
  have hB2 := Blk.new (w.alloc (.cells #[.pointer (some ⟨p, 0, none⟩)] 23)) 9 #[.string s]
  rw [show (w.alloc (.cells #[.pointer (some ⟨p, 0, none⟩)] 23)).heap.size = w.heap.size + 1 by simp] at hB2
  have h0 := h.below hb0
  have HB0 := Lib.hid hb0
  cases hm : mayB s.data.toList with
  | false =>
    rw [if_neg (by simp)]
    have hfi := find_bad h0 s true (by rw [hm]; simp)
    have H := Lib.hid h
    clear h hm h0 hB1 hB2 hb0
    go_enter Try.func40, Try.ntmps40
    go_wp2_with fail
    refine hfi.mono ?_
    rintro e w1 ⟨rfl, hb1⟩
    have HB1 := Lib.hid (HB0.out.trans (hb1.mono HB0.out.size))
    clear hfi hb1
    go_wp2
    go_ret
    exact ⟨rfl, .same H.out HB1.out⟩
  | true =>
    rw [if_pos rfl, find_plain]
    cases hf : find L s.data.toList with
    | none =>
      have hfi := find_lacks h0 s hm hf
      have H := Lib.hid h
      clear h hm hf h0 hB1 hB2 hb0
      go_enter Try.func40, Try.ntmps40
      go_wp2_with fail
      refine hfi.mono ?_
      rintro e w1 ⟨rfl, hb1⟩
      have HB1 := Lib.hid (HB0.out.trans (hb1.mono HB0.out.size))
      clear hfi hb1
      go_wp2
      go_ret
      exact ⟨rfl, .same H.out HB1.out⟩
    | some f =>
      have hfi := find_there h0 s hm f hf
      have hsz : s.size ≤ maxLen := by have := may_size hm; unfold maxLen; omega
      have H := Lib.hid h
      have HW := Lib.hid hw
      have HS := Lib.hid hsz
      have hpl := h.blk.lt
      show Calls _ _ _ _ (Res w p m L (writeS S (delP (plain L) s.data.toList) (plain L) (plain L)))
      clear h hm hf hw h0 hb0 hsz
      go_enter Try.func40, Try.ntmps40
      go_wp2_with fail
      refine hfi.mono ?_
      rintro e w1 ⟨rfl, hb1⟩
      clear hfi
      have hb2 : Below w.heap.size w w1 := HB0.out.trans (hb1.mono HB0.out.size)
      have hC1 := hB1.below hb1 hB1.lt
      have hC2 := hB2.below hb1 hB2.lt
      have h2 := H.out.below hb2
      have hwr := write_any (B := w.heap.size) h2 HW.out 60 56 #[.pointer (some ⟨w.heap.size, 0, none⟩), .pointer (some ⟨w.heap.size + 1, 0, none⟩)] #[] (delP (plain L) s.data.toList) (plain L)
        (enters_of Try.func60 (by kernel_rfl) rfl) enters_nothing
        (fun W hd hk hz => remove1_any w.heap.size (w.heap.size + 1) s HS.out W (by rw [(hC1.kept hk (by omega)).cell]; rfl) (by rw [(hC2.kept hk (by omega)).cell]; rfl) hd)
        (fun W hd _ _ => nothing_turn W _ hd)
      have HWR := Lib.hid hwr
      have HB := Lib.hid hb2
      have q1 : w1.cell? ⟨w.heap.size, 0, none⟩ = some (.pointer (some ⟨p, 0, none⟩)) := by rw [hC1.cell]; rfl
      clear hwr hB1 hB2 h2 hb2 hb1 hC1 hC2
      go_wp2_with fail
      refine HWR.out.mono ?_
      rintro e w2 ⟨rfl, ht⟩
      have HT := Lib.hid ht
      clear ht HWR
      generalize (writeS S (delP (plain L) s.data.toList) (plain L) (plain L)) = r at *
      go_wp2_with fail
      go_ret
      exact ⟨rfl, HT.out.from HB.out⟩
end
end Go.Proofs.Ytdbkhigocjmfoaa

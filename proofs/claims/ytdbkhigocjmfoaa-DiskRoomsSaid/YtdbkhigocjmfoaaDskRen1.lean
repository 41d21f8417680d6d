/-
  What Rename does.
-/
import Derived.Test.YtdbkhigocjmfoaaDskCut2
namespace Go.Proofs.Ytdbkhigocjmfoaa
open Go.RowKit Go.Maps
open DskM
set_option linter.unusedVariables false
set_option linter.unusedSimpArgs false
set_option maxRecDepth 20000

theorem len_del : ∀ {L : List Fo} {f : Fo} {n : Nm}, f ∈ L → f.nm = n → (del L n).length + 1 ≤ L.length
  | [], _, _, hf, _ => by cases hf
  | x :: L, f, n, hf, e => by
    by_cases hx : x.nm = n
    · have : del (x :: L) n = del L n := by show (x :: L).filter _ = _; rw [List.filter_cons_of_neg (by simp [hx])]; rfl
      rw [this, List.length_cons]
      have := List.length_filter_le (fun f : Fo => !(f.nm == n)) L
      show (L.filter _).length + 1 ≤ _
      omega
    · have : del (x :: L) n = x :: del L n := by show (x :: L).filter _ = _; rw [List.filter_cons_of_pos (by simp [hx])]; rfl
      rw [this, List.length_cons, List.length_cons]
      rcases List.mem_cons.1 hf with rfl | hf
      · exact absurd e hx
      · have := len_del hf e; omega
section
variable {w w' W W' : World} {p m : Nat} {S S' : Ds} {L : List Fo} {B : Nat}
/-- A file has another name. -/
theorem Dk.renamed (h : Dk W p m S L) {f : Fo} (hf : f ∈ L) (t : Nm) (ht : mayB t = true) {q : Nat} (k : Keep (fun i => i = m) W W') (hm : W'.ownsMap Try.prog 9 ptrR m q (DE (ins { f with nm := t } (del (del L f.nm) t)))) :
    Dk W' p m S (ins { f with nm := t } (del (del L f.nm) t)) := by
  obtain ⟨hb, hfl⟩ := h.keptMap k
  have hx := ownsMap_exact hm
  rw [size_DE] at hx
  have mem : ∀ {y : Fo}, y ∈ del (del L f.nm) t → y ∈ L ∧ y.nm ≠ f.nm ∧ y.nm ≠ t := fun hy => by
    obtain ⟨h1, h2⟩ := mem_del.1 hy
    obtain ⟨h3, h4⟩ := mem_del.1 h1
    exact ⟨h3, h4, h2⟩
  refine ⟨hb, hx, rise_ins (rise_del (rise_del h.rise _) _) (fun y hy => (mem hy).2.2), fun y hy => ?_, fun x hx y hy hne => ?_, h.cap1, h.cap2, ?_, ?_, h.fuse1, h.fuse2⟩
  · rcases mem_ins.1 hy with rfl | hy
    · have := hfl f hf
      exact ⟨this.blk, this.row, this.la, ht⟩
    · exact hfl y (mem hy).1
  · have key : ∀ z ∈ del (del L f.nm) t, f.g ≠ z.g ∧ ∀ i, f.v.ownBlock = some i → z.v.ownBlock ≠ some i := fun z hz => h.apart f hf z (mem hz).1 (fun e => (mem hz).2.1 e.symm)
    rcases mem_ins.1 hx with ex | hx1 <;> rcases mem_ins.1 hy with ey | hy1
    · exact absurd (by rw [ex, ey]) hne
    · rw [ex]; exact key y hy1
    · obtain ⟨a, b⟩ := key x hx1
      rw [ey]
      exact ⟨fun e => a e.symm, fun i hi e => b i e hi⟩
    · exact h.apart x (mem hx1).1 y (mem hy1).1 hne
  · rw [total_ins]
    have h1 := total_del_le (del L f.nm) t
    have h2 := total_del h.rise hf rfl
    have h3 := h.room
    show f.bs.length + _ ≤ _
    omega
  · rw [len_ins]
    have h1 := len_del hf (rfl : f.nm = f.nm)
    have h2 : (del (del L f.nm) t).length ≤ (del L f.nm).length := List.length_filter_le _ _
    have := h.few
    omega
theorem Foot.renamed {f : Fo} (hf : f ∈ L) {t : Nm} : ∀ i, Foot p m (ins { f with nm := t } (del (del L f.nm) t)) i → Foot p m L i := by
  rintro i (rfl | rfl | ⟨y, hy, hi⟩)
  · exact .inl rfl
  · exact .inr (.inl rfl)
  · rcases mem_ins.1 hy with rfl | hy
    · exact .inr (.inr ⟨f, hf, hi⟩)
    · exact .inr (.inr ⟨y, (mem_del.1 (mem_del.1 hy).1).1, hi⟩)

set_option maxHeartbeats 4000000 in
theorem ren1_any (bd bn bf bt : Nat) (s t : ByteArray) (f : Fo) (hf : f ∈ L) (hnm : f.nm = s.data.toList) (hms : mayB s.data.toList = true) (hmt : mayB t.data.toList = true) (hd : Dk W p m S L)
    (hBd : Blk W bd 23 #[.pointer (some ⟨p, 0, none⟩)]) (hBn : Blk W bn 9 #[.string s]) (hBf : Blk W bf 75 #[.pointer (some ⟨f.g, 0, none⟩)]) (hBt : Blk W bt 9 #[.string t]) :
    Calls Try.prog 55 #[.pointer (some ⟨bd, 0, none⟩), .pointer (some ⟨bn, 0, none⟩), .pointer (some ⟨bf, 0, none⟩), .pointer (some ⟨bt, 0, none⟩)] W fun e W' => e = .returned (.tuple #[]) ∧ Turn B W p m L S (insP (t.data.toList, f.bs, f.la) (delP (delP (plain L) s.data.toList) t.data.toList)) W' := by
  have hfo : Try.prog.follows .mixedOrders = true := by kernel_rfl
  have hsz : s.size ≤ maxLen := by have := may_size hms; unfold maxLen; omega
  have htz : t.size ≤ maxLen := by have := may_size hmt; unfold maxLen; omega
  have cd : W.cell? ⟨bd, 0, none⟩ = some (.pointer (some ⟨p, 0, none⟩)) := by rw [hBd.cell]; rfl
  have cn : W.cell? ⟨bn, 0, none⟩ = some (.string s) := by rw [hBn.cell]; rfl
  have cm := hd.c1
  have hown : W.drew.ownsMap Try.prog 9 ptrR m L.length (DE L) := hd.map.drew
  have hmb : ∀ (g : Nat) (t : TypeId) (cs : Array Value), Blk W g t cs → g ≠ m := fun g t cs hg e => ownsMap_notcells hd.map hg e.symm
  have HD := Lib.hid hd
  have HF := Lib.hid hf
  have HNM := Lib.hid hnm
  have HMT := Lib.hid hmt
  have HMB := Lib.hid hmb
  have HB := Lib.hid (And.intro hBd (And.intro hBf hBt))
  clear hd hf hnm hms hmt hBd hBn hBf hBt hmb
  go_enter Try.func55, Try.ntmps55
  go_wp2_with fail
  refine wp_region_still_tail 5 hfo (by kernel_rfl) ?_
  simp only [List.take_succ_cons, List.take_zero, List.drop_succ_cons, List.drop_zero]
  change wpStill _ _ W.drew (fun a' => wpList _ _ _ _ a' W.drew) _ _
  repeat still_step
  refine wpStill_nil ?_
  refine wpList_delete_own _ rfl (.tmp 7) (.tmp 8) 61 9 rfl 75 strKey Try.underlying61 ptrR m L.length (DE L) rfl hown (.string s) (.string s.data.toList) rfl (WideMaps.keyOf_string_mk Try.underlying9 hsz) ?_
  intro W2 hown2 hturn2
  rw [del_DE] at hown2
  have hk2 : Keep (fun i => i = m) W W2 := (Keep.of_below (S := fun i => i = m) (Below.refl W.heap.size W).drew).trans (Keep.of_grown (S := fun i => i = m) hturn2.grown (fun k e => by injection e with e; exact e.symm)) (fun _ h => h) (fun _ _ h => h)
  have hd2 := HD.out.less _ hk2 hown2
  have cd2 : W2.cell? ⟨bd, 0, none⟩ = some (.pointer (some ⟨p, 0, none⟩)) := by rw [(HB.out.1.kept hk2 (HMB.out _ _ _ HB.out.1)).cell]; rfl
  have cf2 : W2.cell? ⟨bf, 0, none⟩ = some (.pointer (some ⟨f.g, 0, none⟩)) := by rw [(HB.out.2.1.kept hk2 (HMB.out _ _ _ HB.out.2.1)).cell]; rfl
  have ct2 : W2.cell? ⟨bt, 0, none⟩ = some (.string t) := by rw [(HB.out.2.2.kept hk2 (HMB.out _ _ _ HB.out.2.2)).cell]; rfl
  have cm2 := hd2.c1
  have hown3 : W2.drew.ownsMap Try.prog 9 ptrR m (del L s.data.toList).length (DE (del L s.data.toList)) := hd2.map.drew
  have hfew : (del L s.data.toList).length < maxLen := by have := hd2.few; unfold maxLen; omega
  have HK2 := Lib.hid hk2
  clear hown2 hturn2 hd2 cd cn cm hown hk2
  go_wp2_with fail
  refine wp_region_still_tail 6 hfo (by kernel_rfl) ?_
  simp only [List.take_succ_cons, List.take_zero, List.drop_succ_cons, List.drop_zero]
  change wpStill _ _ W2.drew (fun a' => wpList _ _ _ _ a' W2.drew) _ _
  repeat still_step
  refine wpStill_nil ?_
  refine wpList_mapUpdate_own _ rfl (.tmp 12) (.tmp 13) (.tmp 14) 61 rfl 9 75 strKey Try.underlying61 ptrR m _ (DE (del L s.data.toList)) rfl hown3 hfew (.string t) (.pointer (some ⟨f.g, 0, none⟩)) (.string t.data.toList) rfl rfl (WideMaps.keyOf_string_mk Try.underlying9 htz) (.lit (.int .i64 (f.g : Int))) [] (ptrR_some _) ?_
  intro W3 hown4 hgr3
  have hk3 : Keep (fun i => i = m) W W3 := (HK2.out.trans (Keep.of_below (S := fun i => i = m) (Below.refl W2.heap.size W2).drew) (fun _ h => h) (fun _ _ h => h)).trans (Keep.of_grown (S := fun i => i = m) hgr3 (fun k e => by injection e with e; exact e.symm)) (fun _ h => h) (fun _ _ h => h)
  have e1 := put_DE (del L s.data.toList) { f with nm := t.data.toList }
  have hT : Turn B W p m L S (insP (t.data.toList, f.bs, f.la) (delP (delP (plain L) s.data.toList) t.data.toList)) W3 := by
    rw [show (DE (del L s.data.toList)).put (.string t.data.toList) (.lit (.int .i64 (f.g : Int))) = DE (ins { f with nm := t.data.toList } (del (del L s.data.toList) t.data.toList)) from e1] at hown4
    rw [← HNM.out] at hown4 ⊢
    refine ⟨_, ?_, HD.out.renamed HF.out t.data.toList HMT.out hk3 hown4, hk3.mono (fun i e => .inl (.inr (.inl e))), fun i hi => .inl (Foot.renamed HF.out i hi)⟩
    rw [ins_plain, del_plain, del_plain]
    rfl
  have HT := Lib.hid hT
  clear hT hown4 hgr3 hk3 e1 hown3 cd2 cf2 ct2 cm2
  go_wp2
  go_end0
  exact ⟨rfl, HT.out⟩
end
end Go.Proofs.Ytdbkhigocjmfoaa

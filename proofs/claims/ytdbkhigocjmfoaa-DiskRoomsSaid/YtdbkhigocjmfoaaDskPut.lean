/-
  A disk one of whose files has turned.
-/
import Derived.Test.YtdbkhigocjmfoaaDskWrite
namespace Go.Proofs.Ytdbkhigocjmfoaa
open Go.RowKit Go.Maps
open DskM
set_option linter.unusedVariables false
set_option linter.unusedSimpArgs false

/-- The file of that name is that one. -/
def setF (L : List Fo) (f' : Fo) : List Fo := upd L f'.nm fun _ => f'
theorem setF_nm (L : List Fo) (f' : Fo) : (setF L f').map Fo.nm = L.map Fo.nm := by
  unfold setF upd
  rw [List.map_map]
  refine List.map_congr_left fun f _ => ?_
  simp only [Function.comp_apply]
  split
  · rename_i h; exact h.symm
  · rfl
theorem setF_rise {L : List Fo} (h : Rise L) (f' : Fo) : Rise (setF L f') := by
  rw [rise_iff, setF_nm, ← rise_iff]; exact h
theorem setF_len (L : List Fo) (f' : Fo) : (setF L f').length = L.length := by simp [setF, upd]
theorem mem_setF {L : List Fo} {f' y : Fo} (h : y ∈ setF L f') : y = f' ∨ (y ∈ L ∧ y.nm ≠ f'.nm) := by
  obtain ⟨f, hf, e⟩ := mem_upd.1 h
  by_cases hn : f.nm = f'.nm
  · rw [if_pos hn] at e; exact .inl e
  · rw [if_neg hn] at e; subst e; exact .inr ⟨hf, hn⟩
theorem setF_DE {L : List Fo} (hr : Rise L) {f f' : Fo} (hf : f ∈ L) (hn : f'.nm = f.nm) (hg : f'.g = f.g) : DE (setF L f') = DE L := by
  unfold DE setF upd
  rw [List.map_map]
  congr 1
  refine List.map_congr_left fun x hx => ?_
  simp only [Function.comp_apply]
  split
  · rename_i h
    have : x = f := rise_one hr hx hf (h.trans hn)
    subst this
    unfold enc
    rw [hn, hg]
  · rfl
theorem setF_total {L : List Fo} (hr : Rise L) {f f' : Fo} (hf : f ∈ L) (hn : f'.nm = f.nm) : total (setF L f') + f.bs.length = total L + f'.bs.length := by
  unfold setF
  rw [hn]
  exact total_upd (h := fun _ => f') hr hf rfl
theorem find_setF {L : List Fo} (hr : Rise L) {f f' : Fo} (hf : f ∈ L) (hn : f'.nm = f.nm) (n : Nm) : find (setF L f') n = if n = f'.nm then some f' else find L n := by
  by_cases h : n = f'.nm
  · rw [if_pos h]
    have hm : f' ∈ setF L f' := mem_upd.2 ⟨f, hf, by rw [if_pos hn.symm]⟩
    have := find_of_mem (setF_rise hr f') hm
    rw [h]; exact this
  · rw [if_neg h]
    cases hc : find L n with
    | none =>
      refine find_none.2 fun y hy e => ?_
      rcases mem_setF hy with rfl | ⟨hy, _⟩
      · exact h e.symm
      · exact find_none.1 hc y hy e
    | some x =>
      obtain ⟨hx, e⟩ := find_mem hc
      have hm : x ∈ setF L f' := mem_upd.2 ⟨x, hx, by rw [if_neg fun e2 => h (e.symm.trans e2)]⟩
      have := find_of_mem (setF_rise hr f') hm
      rw [e] at this; exact this

section
variable {w w' : World} {p m : Nat} {S S' : Ds} {L : List Fo}
theorem Dk.fm (h : Dk w p m S L) {f : Fo} (hf : f ∈ L) : m ≠ f.g := ownsMap_notcells h.map (h.file f hf).blk
theorem Dk.rm (h : Dk w p m S L) {f : Fo} (hf : f ∈ L) : f.v.ownBlock ≠ some m := fun e => by
  obtain ⟨cs, hc⟩ := (h.file f hf).row.isRow e
  exact absurd rfl (ownsMap_notcells h.map hc)
theorem Dk.rf (h : Dk w p m S L) {f f' : Fo} (hf : f ∈ L) (hf' : f' ∈ L) : f.v.ownBlock ≠ some f'.g := fun e => by
  obtain ⟨cs, hc⟩ := (h.file f hf).row.isRow e
  exact absurd rfl (hc.ne_ (h.file f' hf').blk (by decide))
/-- A file has turned: its own block, its row or a new one. -/
theorem Dk.put (h : Dk w p m S L) {f f' : Fo} (hf : f ∈ L) (hn : f'.nm = f.nm) (hg : f'.g = f.g) (hk : Keep (fun i => i = f.g ∨ f.v.ownBlock = some i) w w') (hF : FoAt w' f')
    (hv : ∀ i, f'.v.ownBlock = some i → f.v.ownBlock = some i ∨ w.heap.size ≤ i) (hr : total L + f'.bs.length ≤ S.cap + f.bs.length) : Dk w' p m S (setF L f') := by
  have hlt := h.lt
  refine ⟨h.blk.kept hk ?_, ?_, setF_rise h.rise f', ?_, ?_, h.cap1, h.cap2, ?_, by rw [setF_len]; exact h.few, h.fuse1, h.fuse2⟩
  · rintro (e | e)
    · exact h.ne_file hf e.symm
    · exact h.ne_row hf e
  · rw [setF_len, setF_DE h.rise hf hn hg]
    refine ownsMap_kept h.map hk ?_
    rintro (e | e)
    · exact h.fm hf e
    · exact h.rm hf e
  · intro x hx
    rcases mem_setF hx with rfl | ⟨hx, hne⟩
    · exact hF
    · have ha := h.apart f hf x hx (fun e => hne (e.symm.trans hn.symm))
      refine (h.file x hx).kept hk ?_ ?_
      · rintro (e | e)
        · exact ha.1 e.symm
        · exact h.rf hf hx e
      · rintro i hi (e | e)
        · subst e; exact h.rf hx hf hi
        · exact ha.2 i e hi
  · intro x hx y hy hne
    have key : ∀ z ∈ L, z.nm ≠ f'.nm → (f'.g ≠ z.g ∧ ∀ i, f'.v.ownBlock = some i → z.v.ownBlock ≠ some i) := fun z hz hzn => by
      have ha := h.apart f hf z hz (fun e => hzn (e.symm.trans hn.symm))
      refine ⟨by rw [hg]; exact ha.1, fun i hi e => ?_⟩
      rcases hv i hi with h1 | h1
      · exact ha.2 i h1 e
      · have := hlt i (.inr (.inr ⟨z, hz, .inr e⟩)); omega
    rcases mem_setF hx with ex | ⟨hx1, hxn⟩ <;> rcases mem_setF hy with ey | ⟨hy1, hyn⟩
    · exact absurd (by rw [ex, ey]) hne
    · rw [ex]; exact key y hy1 hyn
    · obtain ⟨a, b⟩ := key x hx1 hxn
      rw [ey]
      exact ⟨fun e => a e.symm, fun i hi e => b i e hi⟩
    · exact h.apart x hx1 y hy1 hne
  · have := setF_total h.rise hf hn
    omega
theorem Foot.setF {f f' : Fo} (hf : f ∈ L) (hn : f'.nm = f.nm) (hg : f'.g = f.g) {n : Nat} (hv : ∀ i, f'.v.ownBlock = some i → f.v.ownBlock = some i ∨ n ≤ i) : ∀ i, Foot p m (setF L f') i → Foot p m L i ∨ n ≤ i := by
  rintro i (rfl | rfl | ⟨x, hx, hi⟩)
  · exact .inl (.inl rfl)
  · exact .inl (.inr (.inl rfl))
  · rcases mem_setF hx with rfl | ⟨hx, _⟩
    · rcases hi with hi | hi
      · exact .inl (.inr (.inr ⟨f, hf, .inl (hi.trans hg)⟩))
      · rcases hv i hi with h | h
        · exact .inl (.inr (.inr ⟨f, hf, .inr h⟩))
        · exact .inr h
    · exact .inl (.inr (.inr ⟨x, hx, hi⟩))
end
end Go.Proofs.Ytdbkhigocjmfoaa

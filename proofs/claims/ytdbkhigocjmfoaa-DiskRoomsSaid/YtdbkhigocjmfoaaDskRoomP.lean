/-
  What the steps come to, plainly: room.
-/
import Derived.Test.YtdbkhigocjmfoaaDskFull
namespace Go.Proofs.Ytdbkhigocjmfoaa
open Go.RowKit Go.Maps Go.Shelf
open DskM
set_option linter.unusedVariables false
set_option linter.unusedSimpArgs false
set_option maxRecDepth 20000

theorem writeS_ok {S : Ds} {d t F : List Fp} (h : (writeS S d t F).1 = 0) : (writeS S d t F).2.2 = d := by
  unfold writeS at h ⊢
  split at h
  · simp at h
  · split at h
    · simp at h
    · rename_i h1 h2
      rw [if_neg h1, if_neg h2]
theorem writeS_not5 {S : Ds} {d t F : List Fp} : (writeS S d t F).1 ≠ 5 := by
  unfold writeS
  split
  · simp
  · split <;> simp
section
variable {S : Ds} {L : List Fo}
theorem total_add (hr : Rise L) (n : Nm) (b : List UInt8) : totalP (addP (plain L) n b) = totalP (plain L) + b.length := by
  unfold addP
  rw [find_plain]
  cases hf : find L n with
  | none =>
    show totalP (insP (n, b, 0) (plain L)) = _
    rw [show insP (n, b, 0) (plain L) = plain (ins ⟨n, b, 0, 0, .nilFunc⟩ L) from (ins_plain ⟨n, b, 0, 0, .nilFunc⟩ L).symm, total_plain, total_plain, total_ins]
    show b.length + _ = _
    omega
  | some f =>
    obtain ⟨h1, h2⟩ := find_mem hf
    show totalP (setP (plain L) (f.nm, f.bs ++ b, f.la)) = _
    rw [show setP (plain L) (f.nm, f.bs ++ b, f.la) = plain (setF L { f with bs := f.bs ++ b }) from (setF_plain L { f with bs := f.bs ++ b }).symm, total_plain, total_plain]
    have := total_upd (h := fun _ => { f with bs := f.bs ++ b }) hr h1 rfl
    unfold setF
    simp only [List.length_append] at this ⊢
    omega
theorem append_ok (hr : Rise L) {n : Nm} {b : List UInt8} (h : (appendS S (plain L) n b).1 = 0) : totalP (appendS S (plain L) n b).2.2 = totalP (plain L) + b.length := by
  unfold appendS at h ⊢
  split at h
  · rename_i h1
    split at h
    · simp at h
    · rename_i h2
      rw [if_pos h1, if_neg h2, writeS_ok h, total_add hr]
  · simp at h
theorem append_full {n : Nm} {b : List UInt8} (h : (appendS S (plain L) n b).1 = 5) (hb : b.length + totalP (plain L) ≤ S.cap) : (appendS S (plain L) n b).2.2 = plain L ∧ L.length = 64 := by
  unfold appendS at h ⊢
  split at h
  · rename_i h1
    split at h
    · rename_i h2
      rw [if_pos h1, if_pos h2]
      refine ⟨rfl, ?_⟩
      rcases h2 with h2 | ⟨_, h2⟩
      · omega
      · rwa [plain_len] at h2
    · exact absurd h writeS_not5
  · simp at h
theorem remove_ok (hr : Rise L) {n : Nm} (h : (removeS S (plain L) n).1 = 0) : ∃ f ∈ L, f.nm = n ∧ totalP (removeS S (plain L) n).2.2 + f.bs.length = totalP (plain L) := by
  unfold removeS at h ⊢
  split at h
  · rename_i h1
    rw [if_pos h1]
    rw [find_plain] at h ⊢
    cases hf : find L n with
    | none => rw [hf] at h; simp at h
    | some f =>
      obtain ⟨h2, h3⟩ := find_mem hf
      rw [hf] at h
      refine ⟨f, h2, h3, ?_⟩
      show totalP (writeS S (delP (plain L) n) (plain L) (plain L)).2.2 + _ = _
      rw [writeS_ok h, show delP (plain L) n = plain (del L n) from (del_plain L n).symm, total_plain, total_plain]
      exact total_del hr h2 h3
  · simp at h
theorem doS_one {s : St} (h : s.kind = 1) (F : List Fp) : doS S F s = appendS S F s.nm.data.toList s.b := by unfold doS; rw [if_pos h]
theorem doS_five {s : St} (h : s.kind = 5) (F : List Fp) : doS S F s = removeS S F s.nm.data.toList := by
  unfold doS
  rw [if_neg (by omega), if_neg (by omega), if_neg (by omega), if_neg (by omega), if_pos h]
end

/-! The last name that came; the sum of the sizes that came. -/
def lastN {L : List Fo} (pre : List (EntL L)) : Nm := match pre.getLast? with | none => [] | some x => x.1.1
def sumZ {L : List Fo} (pre : List (EntL L)) : Nat := (pre.map (fun x => x.1.2)).sum
theorem lastN_snoc {L : List Fo} (pre : List (EntL L)) (x : EntL L) : lastN (pre ++ [x]) = x.1.1 := by simp [lastN]
theorem sumZ_snoc {L : List Fo} (pre : List (EntL L)) (x : EntL L) : sumZ (pre ++ [x]) = sumZ pre + x.1.2 := by simp [sumZ]
theorem sumZ_all (L : List Fo) : sumZ (allE L) = total L := by
  unfold sumZ total allE
  rw [show (fun x : EntL L => x.1.2) = (fun y : Nm × Nat => y.2) ∘ (fun x : EntL L => x.1) from rfl, ← List.map_map]
  have : (((L.map Fo.nm).zip (L.map fun f => f.bs.length)).attach.map fun x => x.1) = L.map fun f => (f.nm, f.bs.length) := by
    rw [List.attach_map_subtype_val, zip_L]
  rw [this, List.map_map]
  rfl
theorem last_lt {w : World} {p m : Nat} {S : Ds} {L : List Fo} (hd : Dk w p m S L) {pre : List (EntL L)} {x : EntL L} (h : pre ++ [x] = (allE L).take (pre ++ [x]).length) : Lt (lastN pre) x.1.1 := by
  obtain ⟨h1, hk, h2⟩ := ent_last hd.rise h
  rw [h2]
  show Lt (lastN pre) L[pre.length].nm
  rcases Nat.eq_zero_or_pos pre.length with h0 | h0
  · have e : pre = [] := List.eq_nil_of_length_eq_zero h0
    subst e
    have hm := (mayB_iff.1 (hd.file _ (List.getElem_mem hk)).may).1
    show bytesBefore [] _ = true
    cases hc : (L[([] : List (EntL L)).length].nm) with
    | nil => rw [hc] at hm; simp at hm
    | cons a b => rfl
  · have hl : pre.length - 1 < (allE L).length := by rw [allE_len]; omega
    have e : pre.getLast? = some ((allE L)[pre.length - 1]) := by
      rw [List.getLast?_eq_getElem?]
      have h3 : pre[pre.length - 1]? = ((allE L).take pre.length)[pre.length - 1]? := by rw [← h1]
      rw [h3, List.getElem?_take_of_lt (by omega), List.getElem?_eq_getElem hl]
    have e2 : lastN pre = L[pre.length - 1].nm := by
      unfold lastN
      rw [e]
      show ((allE L)[pre.length - 1]).1.1 = _
      rw [allE_at L _ hl (by omega)]
    rw [e2]
    exact List.pairwise_iff_getElem.1 hd.rise (pre.length - 1) pre.length (by omega) hk (by omega)
end Go.Proofs.Ytdbkhigocjmfoaa

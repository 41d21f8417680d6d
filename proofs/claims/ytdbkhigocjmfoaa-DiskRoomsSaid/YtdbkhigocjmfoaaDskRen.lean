/-
  The walk of Rename, in all its ways.
-/
import Derived.Test.YtdbkhigocjmfoaaDskRenM
namespace Go.Proofs.Ytdbkhigocjmfoaa
open Go.RowKit Go.Maps
open DskM
set_option linter.unusedVariables false
set_option linter.unusedSimpArgs false
set_option maxRecDepth 20000

section
variable {w w' W W' : World} {p m : Nat} {S S' : Ds} {L : List Fo} {B : Nat}
set_option maxHeartbeats 4000000 in
theorem rename_any (h : Dk w p m S L) (hw : S.wr ≤ 1000000) (s t : ByteArray) :
    Calls Try.prog 27 #[.pointer (some ⟨p, 0, none⟩), .string s, .string t] w (Res w p m L (renameS S (plain L) s.data.toList t.data.toList)) := by
  unfold renameS
  have hpl := h.blk.lt
  by_cases hmk : mayB s.data.toList = true ∧ mayB t.data.toList = true
  · rw [if_pos hmk]
    obtain ⟨hms, hmt⟩ := hmk
    rw [find_plain]
    cases hf : find L s.data.toList with
    | none =>
      refine ren_mid (some ⟨p, 0, none⟩) s t none 6 (.inr (.inr (.inl rfl))) (fun X hX => by rw [hmt]; exact find_lacks (h.below hX) s hms hf) _ (fun _ X hb => ⟨rfl, .same h hb⟩) (fun e => absurd e (by decide))
    | some f =>
      obtain ⟨hfm, hnm⟩ := find_mem hf
      refine ren_mid (some ⟨p, 0, none⟩) s t (some ⟨f.g, 0, none⟩) 0 (.inl rfl) (fun X hX => by rw [hmt]; exact find_there (h.below hX) s hms f hf) _ (fun e => absurd rfl e) (fun _ X g hb hg h1 h2 h3 h4 => ⟨.int .i64 (writeS S (insP (t.data.toList, f.bs, f.la) (delP (delP (plain L) s.data.toList) t.data.toList)) (plain L) (plain L)).1, ?_⟩)
      have hd := h.below hb
      have hwr := write_any (B := w.heap.size) hd hw 55 56 #[.pointer (some ⟨w.heap.size, 0, none⟩), .pointer (some ⟨w.heap.size + 1, 0, none⟩), .pointer (some ⟨g, 0, none⟩), .pointer (some ⟨w.heap.size + 2, 0, none⟩)] #[] (insP (t.data.toList, f.bs, f.la) (delP (delP (plain L) s.data.toList) t.data.toList)) (plain L)
        (enters_of Try.func55 (by kernel_rfl) rfl) enters_nothing
        (fun W hd' hk hz => ren1_any _ _ _ _ s t f hfm hnm hms hmt hd' (h1.kept hk (by omega)) (h2.kept hk (by omega)) (h4.kept hk (by omega)) (h3.kept hk (by omega)))
        (fun W hd' _ _ => nothing_turn W _ hd')
      refine hwr.mono ?_
      rintro e w5 ⟨rfl, ht⟩
      exact ⟨rfl, rfl, ht.from hb⟩
  · rw [if_neg hmk]
    exact ren_mid (some ⟨p, 0, none⟩) s t none 2 (.inr (.inl rfl)) (fun X hX => find_bad (h.below hX) s _ hmk) _ (fun _ X hb => ⟨rfl, .same h hb⟩) (fun e => absurd e (by decide))
end
end Go.Proofs.Ytdbkhigocjmfoaa

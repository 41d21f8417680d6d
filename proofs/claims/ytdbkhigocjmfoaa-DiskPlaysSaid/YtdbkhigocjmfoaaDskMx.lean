/-
  A disk that stands among blocks of the law's own; what the steps and a loss of power come to, plainly.
-/
import Derived.Test.YtdbkhigocjmfoaaDskSameB
import Derived.Test.YtdbkhigocjmfoaaDskDo1
namespace Go.Proofs.Ytdbkhigocjmfoaa
open Go.RowKit Go.Maps Go.Shelf
open DskM
set_option linter.unusedVariables false
set_option linter.unusedSimpArgs false
set_option maxRecDepth 20000

/-- At p a disk stands, all of whose blocks are among A. -/
def Mx (A : Nat → Prop) (W : World) (p : Nat) (S : Ds) (F : List Fp) : Prop := ∃ m L, plain L = F ∧ Dk W p m S L ∧ ∀ i, Foot p m L i → A i
section
variable {A : Nat → Prop} {w W W' : World} {p : Nat} {S S' : Ds} {F F' : List Fp}
theorem Mx.kept {T : Nat → Prop} (h : Mx A W p S F) (k : Keep T W W') (hT : ∀ i, A i → ¬ T i) : Mx A W' p S F := by
  obtain ⟨m, L, e, hd, hf⟩ := h
  exact ⟨m, L, e, hd.kept k (fun i hi => hT i (hf i hi)), hf⟩
theorem Mx.below (h : Mx A W p S F) (hb : Below W.heap.size W W') : Mx A W' p S F := by
  obtain ⟨m, L, e, hd, hf⟩ := h
  exact ⟨m, L, e, hd.below hb, hf⟩
theorem Mx.my (h : Mx A W p S F) : My 0 W p S F := by
  obtain ⟨m, L, e, hd, hf⟩ := h
  exact ⟨m, L, e, hd, fun i _ => Nat.zero_le i⟩
theorem My.mx {B : Nat} (h : My B W p S F) (hA : ∀ i, B ≤ i → i < W.heap.size → A i) : Mx A W p S F := by
  obtain ⟨m, L, e, hd, hf⟩ := h
  exact ⟨m, L, e, hd, fun i hi => hA i (hf i hi) (hd.lt i hi)⟩
theorem mx_do (h : Mx A W p S F) (hA : ∀ i, W.heap.size ≤ i → A i) (hw : S.wr ≤ 1000000) (s : St) (hs : StAt W s) {r : Int × Ds × List Fp} (hr : doS S F s = r) :
    Calls Try.prog 13 #[.pointer (some ⟨p, 0, none⟩), .agg s.cs] W fun e W' => ∃ p', e = .returned (.tuple #[.int .i64 r.1, .pointer (some ⟨p', 0, none⟩)]) ∧ Mx A W' p' r.2.1 r.2.2 ∧ Keep A W W' := by
  obtain ⟨m, L, e, hd, hf⟩ := h
  subst hr
  rw [← e]
  refine (do_any hd hw s hs).mono ?_
  rintro e' W' ⟨p', rfl, m', L', e2, hd', hk, hf'⟩
  exact ⟨p', rfl, ⟨m', L', e2, hd', fun i hi => (hf' i hi).elim (hf i) (hA i)⟩, hk.mono (fun i hi => hi.elim (hf i) (hA i))⟩
end
theorem writeS_nums (S : Ds) (d t F : List Fp) : (writeS S d t F).2.1.cap = S.cap ∧ (writeS S d t F).2.1.wr ≤ S.wr + 1 := by
  unfold writeS
  split
  · exact ⟨rfl, Nat.le_succ _⟩
  · split
    · exact ⟨rfl, Nat.le_refl _⟩
    · exact ⟨rfl, Nat.le_refl _⟩
theorem doS_nums (S : Ds) (F : List Fp) (s : St) : (doS S F s).2.1.cap = S.cap ∧ (doS S F s).2.1.wr ≤ S.wr + 1 := by
  have h0 : S.cap = S.cap ∧ S.wr ≤ S.wr + 1 := ⟨rfl, Nat.le_succ _⟩
  unfold doS
  split
  · unfold appendS; split
    · split
      · exact h0
      · exact writeS_nums _ _ _ _
    · exact h0
  split
  · unfold syncS; split
    · split
      · exact h0
      · exact writeS_nums _ _ _ _
    · exact h0
  split
  · unfold cutS; split
    · split
      · exact h0
      · split
        · exact h0
        · exact writeS_nums _ _ _ _
    · exact h0
  split
  · unfold renameS; split
    · split
      · exact h0
      · exact writeS_nums _ _ _ _
    · exact h0
  split
  · unfold removeS; split
    · split
      · exact h0
      · exact writeS_nums _ _ _ _
    · exact h0
  split
  · unfold fuseS; split <;> exact h0
  split
  · exact ⟨rfl, Nat.zero_le _⟩
  · exact h0
theorem crashP_len (F : List Fp) (keep : List Int) : (crashP keep F).length = F.length := by
  have := congrArg List.length (crashP_names F keep)
  simpa using this
theorem crash_again : ∀ (F : List Fp) (keep : List Int), (∀ x ∈ F, x.2.2 ≤ x.2.1.length) → crashP [] (crashP keep F) = crashP keep F
  | [], _, _ => rfl
  | x :: F, keep, h => by
    have h1 := keptN_le (h x (List.mem_cons_self ..)) keep
    have h2 : (x.2.1.take (keptN x.2.2 x.2.1.length keep).1).length = (keptN x.2.2 x.2.1.length keep).1 := by rw [List.length_take]; omega
    show (_ :: crashP _ (crashP _ F) : List Fp) = _ :: _
    simp only [h2, keptN_nil]
    rw [crash_again F _ (fun y hy => h y (List.mem_cons_of_mem _ hy)), List.take_of_length_le (by omega)]
theorem crash_mem : ∀ (F : List Fp) (keep : List Int), (∀ x ∈ F, x.2.2 ≤ x.2.1.length) → ∀ y ∈ crashP keep F, ∃ x ∈ F, ∃ n, y = (x.1, x.2.1.take n, n) ∧ x.2.2 ≤ n ∧ n ≤ x.2.1.length
  | [], _, _, y, hy => by cases hy
  | x :: F, keep, h, y, hy => by
    have h1 := keptN_le (h x (List.mem_cons_self ..)) keep
    rcases List.mem_cons.1 hy with rfl | hy
    · exact ⟨x, List.mem_cons_self .., _, rfl, h1.1, h1.2⟩
    · obtain ⟨z, hz, r⟩ := crash_mem F _ (fun y hy => h y (List.mem_cons_of_mem _ hy)) y hy
      exact ⟨z, List.mem_cons_of_mem _ hz, r⟩
section
variable {w : World} {p m p' m' : Nat} {S S' : Ds} {L L' : List Fo}
theorem Dk.las (h : Dk w p m S L) : ∀ x ∈ plain L, x.2.2 ≤ x.2.1.length := by
  intro x hx
  obtain ⟨f, hf, rfl⟩ := List.mem_map.1 hx
  exact (h.file f hf).la
theorem Dk.readIs (h : Dk w p m S L) {f : Fo} (hf : f ∈ L) : readE (plain L) f.nm = 0 ∧ bytesP (plain L) f.nm = f.bs ∧ lastsP (plain L) f.nm = f.la := by
  have hm := (h.file f hf).may
  have e : findP (plain L) f.nm = some f.p := by rw [find_plain, find_of_mem h.rise hf]; rfl
  unfold readE bytesP lastsP
  rw [if_pos hm, if_pos hm, if_pos hm, e]
  exact ⟨rfl, rfl, rfl⟩
/-- A file behind the loss of power. -/
theorem crash_file (h : Dk w p m S L) (h' : Dk w p' m' S' L') {keep : List Int} (e : plain L' = crashP keep (plain L)) {f : Fo} (hf : f ∈ L) :
    ∃ k ∈ L', k.nm = f.nm ∧ ∃ n, f.la ≤ n ∧ n ≤ f.bs.length ∧ k.bs = f.bs.take n ∧ k.la = n := by
  have h1 : f.nm ∈ (crashP keep (plain L)).map (·.1) := by rw [crashP_names]; exact List.mem_map.2 ⟨f.p, List.mem_map.2 ⟨f, hf, rfl⟩, rfl⟩
  obtain ⟨y, hy, e1⟩ := List.mem_map.1 h1
  obtain ⟨x, hx, n, e2, h2, h3⟩ := crash_mem _ _ h.las y hy
  obtain ⟨g, hg, rfl⟩ := List.mem_map.1 hx
  have e3 : g = f := rise_one h.rise hg hf (by rw [e2] at e1; exact e1)
  subst e3
  rw [← e] at hy
  obtain ⟨k, hk, e4⟩ := List.mem_map.1 hy
  rw [e2] at e4
  exact ⟨k, hk, congrArg (·.1) e4, n, h2, h3, congrArg (·.2.1) e4, congrArg (·.2.2) e4⟩
/-- .. and the other way. -/
theorem crash_back (h : Dk w p m S L) (h' : Dk w p' m' S' L') {keep : List Int} (e : plain L' = crashP keep (plain L)) {k : Fo} (hk : k ∈ L') : ∃ f ∈ L, f.nm = k.nm := by
  have h1 : k.nm ∈ (plain L').map (·.1) := List.mem_map.2 ⟨k.p, List.mem_map.2 ⟨k, hk, rfl⟩, rfl⟩
  rw [e, crashP_names] at h1
  obtain ⟨y, hy, e1⟩ := List.mem_map.1 h1
  obtain ⟨f, hf, rfl⟩ := List.mem_map.1 hy
  exact ⟨f, hf, e1⟩
end
end Go.Proofs.Ytdbkhigocjmfoaa

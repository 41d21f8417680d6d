/-
  The document's disk: its record, its row of files, each file's bytes; what keeps it, what turns it.
-/
import Derived.Test.YtdbkhigocjmfoaaDskRefPM
import Derived.Test.YtdbkhigocjmfoaaHeldTail
namespace Go.Proofs.Ytdbkhigocjmfoaa
open Go.RowKit
open DskM
set_option linter.unusedVariables false
set_option linter.unusedSimpArgs false

def pl (R : List Fr) : List Fp := R.map Fr.p
theorem pl_len (R : List Fr) : (pl R).length = R.length := by simp [pl]
theorem pl_get (R : List Fr) (k : Nat) (h : k < (pl R).length) : (pl R)[k] = (R[k]'(by rw [pl_len] at h; exact h)).p := by simp [pl]
theorem pl_app (R T : List Fr) : pl (R ++ T) = pl R ++ pl T := by simp [pl]
theorem pl_take (R : List Fr) (n : Nat) : pl (R.take n) = (pl R).take n := by simp [pl]
theorem pl_drop (R : List Fr) (n : Nat) : pl (R.drop n) = (pl R).drop n := by simp [pl]
theorem pl_set (R : List Fr) (n : Nat) (f : Fr) : pl (R.set n f) = (pl R).set n f.p := by simp [pl]
def rdc (v : Value) (S : Ds) : Array Value := #[v, .int .i64 (S.cap : Int), .int .i64 S.fuse, .bool S.dead, .int .i64 (S.wr : Int)]
/-- At q the document's disk stands: its numbers, its files; v is its files' slice. -/
structure Rd (w : World) (q : Nat) (v : Value) (S : Ds) (R : List Fr) : Prop where
  blk : Blk w q 33 (rdc v S)
  row : OwnF w 0 v R
  byt : ∀ f ∈ R, Own w 0 5 f.v f.bs
/-- The blocks in which it stands. -/
def RFoot (q : Nat) (v : Value) (R : List Fr) : Nat → Prop := fun i => i = q ∨ v.ownBlock = some i ∨ ∃ f ∈ R, f.v.ownBlock = some i

theorem Own.front {w : World} {base m c : Nat} {e : TypeId} {A : Option Addr} {l : List UInt8} (h : Own w base e (.slice A m c) l) (n : Nat) (hn : n ≤ l.length) : Own w base e (.slice A n c) (l.take n) := by
  have hl : (l.take n).length = n := by rw [List.length_take]; omega
  unfold Own at h ⊢
  rw [hl]
  refine ⟨by rw [List.length_map, hl, Nat.mul_one], ?_⟩
  rcases h.2 with ⟨e1, h0⟩ | ⟨g, cap, cur, e1, hg, hh, hnc, hm, hs, ht⟩
  · injection e1 with a1 a2 a3
    subst a1; subst a3
    have : n = 0 := by omega
    subst this
    exact .inl ⟨rfl, rfl⟩
  · injection e1 with a1 a2 a3
    subst a1; subst a3
    refine .inr ⟨g, c, cur, rfl, hg, hh, by omega, hm, hs, ?_⟩
    have e2 : (l.take n).map bv = (l.map bv).take n := by rw [List.map_take]
    rw [e2, ← ht, List.take_take]
    congr 1
    omega
theorem own_block_front (A : Option Addr) (m n c d : Nat) : (Value.slice A n c).ownBlock = (Value.slice A m d).ownBlock := by cases A <;> rfl
theorem OwnF.isRow {w : World} {base : Nat} {v : Value} {l : List Fr} (h : OwnF w base v l) {i : Nat} (hi : v.ownBlock = some i) : ∃ cs, Blk w i 73 cs := by
  rcases h.2 with ⟨rfl, h0⟩ | ⟨g, cap, cur, rfl, hg, hh, _⟩
  · cases hi
  · cases hi
    exact ⟨cur, hh⟩
/-- A row with files in it. -/
theorem OwnF.form {w : World} {base : Nat} {v : Value} {l : List Fr} (h : OwnF w base v l) (h0 : 0 < l.length) :
    ∃ g c, v = .slice (some ⟨g, 0, none⟩) l.length c ∧ l.length ≤ c ∧ c ≤ 9223372036854775807 ∧
      (∀ k (hk : k < l.length), w.cell? ⟨g, k * 3, none⟩ = some (.string ⟨l[k].nm.toArray⟩) ∧ w.cell? ⟨g, k * 3 + 1, none⟩ = some l[k].v ∧ w.cell? ⟨g, k * 3 + 2, none⟩ = some (.int .i64 (l[k].la : Int))) ∧ ∀ i, w.frozen? ⟨g, i, none⟩ = false := by
  obtain ⟨A, c, e, hc, hc2, _⟩ := h.sl
  rcases h.2 with ⟨e1, h1⟩ | ⟨g, cap, cur, e1, _, _, _⟩
  · omega
  · have h' := h
    unfold OwnF at h'
    rw [e1] at h'
    rw [e] at e1
    injection e1 with a1 a2 a3
    subst a1; subst a3
    refine ⟨g, c, e, hc, hc2, fun k hk => ?_, fun i => h'.frozenAt i⟩
    obtain ⟨g1, g2, g3⟩ := frs_get l k hk
    exact ⟨(h'.cellAt (k * 3) (by omega)).trans g1, (h'.cellAt (k * 3 + 1) (by omega)).trans g2, (h'.cellAt (k * 3 + 2) (by omega)).trans g3⟩
theorem OwnF.shape {w : World} {base : Nat} {v : Value} {l : List Fr} (h : OwnF w base v l) : ∃ A c, v = .slice A l.length c ∧ l.length ≤ c ∧ c ≤ 9223372036854775807 := by
  obtain ⟨A, c, e, hc, hc2, _⟩ := h.sl
  exact ⟨A, c, e, hc, hc2⟩
theorem frs_set1 : ∀ (l : List Fr) (k : Nat) (h : k < l.length) (f : Fr), f.nm = l[k].nm → f.la = l[k].la → frs (l.set k f) = (frs l).set (k * 3 + 1) f.v
  | [], k, h, _, _, _ => absurd h (by simp)
  | x :: l, 0, _, f, h1, h2 => by
    simp only [List.getElem_cons_zero] at h1 h2
    show frc f ++ frs l = (frc x ++ frs l).set 1 f.v
    unfold frc
    rw [h1, h2]
    rfl
  | x :: l, k + 1, h, f, h1, h2 => by
    simp only [List.getElem_cons_succ] at h1 h2
    show frc x ++ frs (l.set k f) = (frc x ++ frs l).set ((k + 1) * 3 + 1) f.v
    rw [frs_set1 l k (by simpa using h) f h1 h2, show (k + 1) * 3 + 1 = (frc x).length + (k * 3 + 1) by show _ = 3 + _; omega, List.set_append_right _ _ (by omega)]
    congr 2
    omega
theorem frs_set2 : ∀ (l : List Fr) (k : Nat) (h : k < l.length) (f : Fr), f.nm = l[k].nm → f.v = l[k].v → frs (l.set k f) = (frs l).set (k * 3 + 2) (.int .i64 (f.la : Int))
  | [], k, h, _, _, _ => absurd h (by simp)
  | x :: l, 0, _, f, h1, h2 => by
    simp only [List.getElem_cons_zero] at h1 h2
    show frc f ++ frs l = (frc x ++ frs l).set 2 _
    unfold frc
    rw [h1, h2]
    rfl
  | x :: l, k + 1, h, f, h1, h2 => by
    simp only [List.getElem_cons_succ] at h1 h2
    show frc x ++ frs (l.set k f) = (frc x ++ frs l).set ((k + 1) * 3 + 2) _
    rw [frs_set2 l k (by simpa using h) f h1 h2, show (k + 1) * 3 + 2 = (frc x).length + (k * 3 + 2) by show _ = 3 + _; omega, List.set_append_right _ _ (by omega)]
    congr 2
    omega
theorem OwnF.set1 {w : World} {base g n c : Nat} {l : List Fr} (h : OwnF w base (.slice (some ⟨g, 0, none⟩) n c) l) (k : Nat) (hk : k < l.length) (f : Fr) (h1 : f.nm = l[k].nm) (h2 : f.la = l[k].la) :
    OwnF (w.setCell ⟨g, k * 3 + 1, none⟩ f.v) base (.slice (some ⟨g, 0, none⟩) n c) (l.set k f) := by
  obtain rfl : n = l.length := by obtain ⟨A, c', e, _⟩ := h.sl; injection e
  have := (World.ownsRow.stored h (k * 3 + 1) f.v).1
  unfold OwnF
  rw [List.length_set, frs_set1 l k hk f h1 h2]
  exact this
theorem OwnF.set2 {w : World} {base g n c : Nat} {l : List Fr} (h : OwnF w base (.slice (some ⟨g, 0, none⟩) n c) l) (k : Nat) (hk : k < l.length) (f : Fr) (h1 : f.nm = l[k].nm) (h2 : f.v = l[k].v) :
    OwnF (w.setCell ⟨g, k * 3 + 2, none⟩ (.int .i64 (f.la : Int))) base (.slice (some ⟨g, 0, none⟩) n c) (l.set k f) := by
  obtain rfl : n = l.length := by obtain ⟨A, c', e, _⟩ := h.sl; injection e
  have := (World.ownsRow.stored h (k * 3 + 2) (.int .i64 (f.la : Int))).1
  unfold OwnF
  rw [List.length_set, frs_set2 l k hk f h1 h2]
  exact this
section
variable {w w' : World} {q : Nat} {v : Value} {S : Ds} {R : List Fr}
theorem Rd.kept {T : Nat → Prop} (h : Rd w q v S R) (k : Keep T w w') (hn : ∀ i, RFoot q v R i → ¬ T i) : Rd w' q v S R :=
  ⟨h.blk.kept k (hn q (.inl rfl)), h.row.kept k (fun i hi => hn i (.inr (.inl hi))), fun f hf => (h.byt f hf).kept k (fun i hi => hn i (.inr (.inr ⟨f, hf, hi⟩)))⟩
theorem Rd.below (h : Rd w q v S R) (hb : Below w.heap.size w w') : Rd w' q v S R := h.kept (T := fun _ => False) (.of_below hb) fun _ _ h => h
theorem Rd.lt (h : Rd w q v S R) : ∀ i, RFoot q v R i → i < w.heap.size := by
  rintro i (rfl | hi | ⟨f, hf, hi⟩)
  · exact h.blk.lt
  · exact (h.row.lt i hi).2
  · exact ((h.byt f hf).lt i hi).2
theorem Rd.rowq (h : Rd w q v S R) : ∀ i, v.ownBlock = some i → i ≠ q := by
  rintro i hi rfl
  obtain ⟨cs, hc⟩ := h.row.isRow hi
  exact absurd rfl (hc.ne_ h.blk (by decide))
theorem Rd.bytq (h : Rd w q v S R) {f : Fr} (hf : f ∈ R) : ∀ i, f.v.ownBlock = some i → i ≠ q ∧ v.ownBlock ≠ some i := by
  intro i hi
  obtain ⟨cs, hc⟩ := (h.byt f hf).isRow hi
  refine ⟨fun e => ?_, fun e => ?_⟩
  · subst e; exact absurd rfl (hc.ne_ h.blk (by decide))
  · obtain ⟨cs2, hc2⟩ := h.row.isRow e
    exact absurd rfl (hc.ne_ hc2 (by decide))
theorem Rd.c0 (h : Rd w q v S R) : w.cell? ⟨q, 0, none⟩ = some v := by rw [h.blk.cell]; rfl
theorem Rd.c1 (h : Rd w q v S R) : w.cell? ⟨q, 1, none⟩ = some (.int .i64 (S.cap : Int)) := by rw [h.blk.cell]; rfl
theorem Rd.c2 (h : Rd w q v S R) : w.cell? ⟨q, 2, none⟩ = some (.int .i64 S.fuse) := by rw [h.blk.cell]; rfl
theorem Rd.c3 (h : Rd w q v S R) : w.cell? ⟨q, 3, none⟩ = some (.bool S.dead) := by rw [h.blk.cell]; rfl
theorem Rd.c4 (h : Rd w q v S R) : w.cell? ⟨q, 4, none⟩ = some (.int .i64 (S.wr : Int)) := by rw [h.blk.cell]; rfl
/-- Its record alone has turned. -/
theorem Rd.turn {v' : Value} {S' : Ds} {R' : List Fr} (h : Rd w q v S R) (k : Keep (fun i => i = q) w w') (hb : Blk w' q 33 (rdc v' S')) (hv : v' = v) (hR : R' = R) : Rd w' q v' S' R' := by
  subst hv; subst hR
  exact ⟨hb, h.row.kept k (fun i hi e => h.rowq i hi e), fun f hf => (h.byt f hf).kept k (fun i hi e => (h.bytq hf i hi).1 e)⟩
/-- The document's row, for the law's looks. -/
theorem Rd.rowAt (h : Rd w q v S R) : ∃ A c, v = .slice A (pl R).length c ∧ RowAt w A (pl R) := by
  obtain ⟨A, c, e, hc⟩ := h.row.shape
  refine ⟨A, c, by rw [pl_len]; exact e, fun k hk => ?_⟩
  have hk' : k < R.length := by rw [pl_len] at hk; exact hk
  obtain ⟨g, c', e2, _, _, hx, _⟩ := h.row.form (by omega)
  rw [e] at e2
  injection e2 with a1 a2 a3
  subst a1; subst a3
  obtain ⟨x1, x2, x3⟩ := hx k hk'
  have ho := (h.byt _ (List.getElem_mem hk')).sl
  obtain ⟨A1, n1, c1, e1⟩ := ho.shape
  have ho' := ho
  rw [e1] at ho'
  have hn1 := ho'.len
  subst hn1
  rw [pl_get R k hk]
  refine ⟨g, 0, A1, c1, rfl, ?_, ?_, ?_, ?_⟩
  · rw [Nat.zero_add]; exact x1
  · rw [Nat.zero_add, x2, e1]; rfl
  · rw [Nat.zero_add]; exact x3
  · exact ho'
end
end Go.Proofs.Ytdbkhigocjmfoaa

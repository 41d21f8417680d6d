/-
  The document's net in memory: its three cells, its row of flights; both nets side by side.
-/
import Derived.Test.YtellbmghahgjfaaNetX
namespace Go.Proofs.Ytellbmghahgjfaa
open Go.RowKit Go.Maps
open NetM
set_option linter.unusedVariables false
set_option linter.unusedSimpArgs false
set_option maxRecDepth 20000

/-- Flights with nothing but their bytes. -/
def pv (V : List (Fl Pl)) : List (Fl (List UInt8)) := mapX Prod.snd V
theorem pv_len (V : List (Fl Pl)) : (pv V).length = V.length := mapX_len _ _
theorem pv_line (V : List (Fl Pl)) (q : Pr) : lineOf (pv V) q = (lineOf V q).map Prod.snd := mapX_line _ _ _
theorem pv_lay (V : List (Fl Pl)) (f : Fl Pl) : pv (lay V f) = lay (pv V) ⟨f.p, f.x.2⟩ := mapX_lay _ _ _
theorem pv_erase (V : List (Fl Pl)) (i : Nat) : pv (V.eraseIdx i) = (pv V).eraseIdx i := mapX_erase _ _ _
theorem pv_clear (V : List (Fl Pl)) (e : Int) : pv (clear V e) = clear (pv V) e := mapX_clear _ _ _
section
variable {V R : List (Fl Pl)}
theorem pv_lens (h : pv V = pv R) : V.length = R.length := by rw [← pv_len, h, pv_len]
theorem pv_lines (h : pv V = pv R) (q : Pr) : (lineOf V q).length = (lineOf R q).length := by
  have := congrArg List.length (congrArg (fun l => lineOf l q) h)
  simpa [pv_line] using this
theorem pv_at (h : pv V = pv R) (i : Nat) (hi : i < V.length) (hj : i < R.length) : V[i].p = R[i].p ∧ V[i].x.2 = R[i].x.2 := by
  have h1 : (pv V)[i]? = (pv R)[i]? := by rw [h]
  unfold pv at h1
  rw [mapX_at, mapX_at, List.getElem?_eq_getElem hi, List.getElem?_eq_getElem hj] at h1
  simp only [Option.map_some, Option.some.injEq, Fl.mk.injEq] at h1
  exact h1
theorem pv_clears (h : pv V = pv R) (e : Int) : (clear V e).length = (clear R e).length := by
  rw [← pv_len, ← pv_len, pv_clear, pv_clear, h]
end
/-- The document's net at x: its row s, so many ends, so many lost, its flights R; all behind B. -/
structure Rn (w : World) (x : Nat) (s : Sv) (E lost : Int) (R : List (Fl Pl)) (B : Nat) : Prop where
  blk : Blk w x 33 #[sv s, .int .i64 E, .int .i64 lost]
  own : OwnK kFl w B (sv s) (R.map shp)
  by_ : ∀ f ∈ R, Sl w (sv f.x.1) f.x.2
  inb : ∀ f ∈ R, ∀ i, InB f.x.1 i → B ≤ i ∧ ∃ cs m, w.heap[i]? = some (.cells cs 5 m)
  xb : B ≤ x
section
variable {w w' : World} {x B : Nat} {s : Sv} {E lost : Int} {R : List (Fl Pl)} {S : Nat → Prop}
/-- What is not of a net's own rows. -/
def Off (w : World) (S : Nat → Prop) : Prop := ∀ i, S i → ∀ cs t m, w.heap[i]? = some (.cells cs t m) → t ≠ 44 ∧ t ≠ 5 ∧ t ≠ 37
theorem Rn.rows (h : Rn w x s E lost R B) (k : Keep S w w') (hS : Off w S) : OwnK kFl w' B (sv s) (R.map shp) ∧ (∀ f ∈ R, Sl w' (sv f.x.1) f.x.2) ∧ (∀ f ∈ R, ∀ i, InB f.x.1 i → B ≤ i ∧ ∃ cs m, w'.heap[i]? = some (.cells cs 5 m)) := by
  have hn : ∀ f ∈ R, ∀ i, InB f.x.1 i → ¬ S i := fun f hf i hi hs => by
    obtain ⟨_, cs, m, hh⟩ := h.inb f hf i hi
    exact (hS i hs _ _ _ hh).2.1 rfl
  refine ⟨h.own.keep fun i hi => ?_, fun f hf => InB.sl (h.by_ f hf) k (hn f hf), fun f hf i hi => ?_⟩
  · obtain ⟨_, cs, m, hh⟩ := own_typed h.own i (sv_block hi)
    exact k.block i (h.own.lt i hi).2 fun hs => (hS i hs _ _ _ hh).1 rfl
  · obtain ⟨hB, cs, m, hh⟩ := h.inb f hf i hi
    exact ⟨hB, cs, m, (k.block i (Array.getElem?_eq_some_iff.1 hh).1 (hn f hf i hi)).trans hh⟩
theorem Rn.kept (h : Rn w x s E lost R B) (k : Keep S w w') (hx : ¬ S x) (hS : Off w S) : Rn w' x s E lost R B := by
  obtain ⟨h1, h2, h3⟩ := h.rows k hS
  exact ⟨h.blk.kept k hx, h1, h2, h3, h.xb⟩
theorem Off.none (w : World) : Off w (fun _ => False) := fun _ h => h.elim
theorem Rn.below (h : Rn w x s E lost R B) (hb : Below w.heap.size w w') : Rn w' x s E lost R B := h.kept (.of_below hb) (fun h => h) (Off.none w)
theorem Rn.offx (h : Rn w x s E lost R B) : Off w (fun i => i = x) := by
  rintro i rfl cs t m hh
  have := hh.symm.trans h.blk
  injection this with this
  injection this with _ e _
  subst e
  exact ⟨by decide, by decide, by decide⟩
theorem Nt.offp {p b : Nat} {K : Kl} {V : List (Fl Pl)} {G : Nat → Prop} (h : Nt w p b E lost K V G) : Off w (fun i => i = p ∨ i = b) := by
  rintro i (rfl | rfl) cs t m hh
  · have := hh.symm.trans h.blk
    injection this with this
    injection this with _ e _
    subst e
    exact ⟨by decide, by decide, by decide⟩
  · obtain ⟨es, clock, hb, _⟩ := h.map
    rw [hh] at hb; cases hb
theorem Nt.px {p b : Nat} {s2 : Sv} {E2 lost2 : Int} {K : Kl} {V : List (Fl Pl)} {G : Nat → Prop} (h : Nt w p b E lost K V G) (k : Rn w x s2 E2 lost2 R B) : ¬ (x = p ∨ x = b) := by
  rintro (rfl | rfl)
  · have := h.blk.symm.trans k.blk
    injection this with this
    injection this with _ e _
    exact absurd e (by decide)
  · obtain ⟨es, clock, hb, _⟩ := h.map
    have := k.blk
    unfold Blk at this
    rw [this] at hb; cases hb
/-- A row of flights is another one. -/
theorem Rn.row (h : Rn w x s E lost R B) {s' : Sv} {R' : List (Fl Pl)} {W : World} (hk : Below w.heap.size w W) (hx : Blk W x 33 #[sv s', .int .i64 E, .int .i64 lost]) (ho : OwnK kFl W B (sv s') (R'.map shp))
    (hR : ∀ f ∈ R', Sl W (sv f.x.1) f.x.2 ∧ ∀ i, InB f.x.1 i → B ≤ i ∧ ∃ cs m, W.heap[i]? = some (.cells cs 5 m)) : Rn W x s' E lost R' B :=
  ⟨hx, ho, fun f hf => (hR f hf).1, fun f hf => (hR f hf).2, h.xb⟩
end
/-- A net of the program's and the document's, with the same in flight; all behind B. -/
structure Tw (B : Nat) (W : World) (p b x : Nat) (E lost : Int) (V R : List (Fl Pl)) : Prop where
  nt : ∃ K G, Nt W p b E lost K V G ∧ ∀ i, G i → B ≤ i
  rf : ∃ s, Rn W x s E lost R B
  hp : B ≤ p
  hb : B ≤ b
  eq : pv V = pv R
section
variable {w w' : World} {B p b x : Nat} {E lost : Int} {V R : List (Fl Pl)} {S : Nat → Prop}
theorem Tw.kept (h : Tw B w p b x E lost V R) (k : Keep S w w') (hp : ¬ S p) (hb : ¬ S b) (hx : ¬ S x) (hS : Off w S) : Tw B w' p b x E lost V R := by
  obtain ⟨K, G, hn, hG⟩ := h.nt
  obtain ⟨s, hr⟩ := h.rf
  refine ⟨⟨K, G, hn.kept k hp hb fun i hi hs => ?_, hG⟩, ⟨s, hr.kept k hx hS⟩, h.hp, h.hb, h.eq⟩
  obtain ⟨cs, t, m, hh, ht⟩ := hn.gty i hi
  have := hS i hs _ _ _ hh
  rcases ht with rfl | rfl
  · exact this.2.1 rfl
  · exact this.2.2 rfl
theorem Tw.below (h : Tw B w p b x E lost V R) (hb : Below w.heap.size w w') : Tw B w' p b x E lost V R := h.kept (S := fun _ => False) (.of_below hb) (fun h => h) (fun h => h) (fun h => h) (Off.none w)
/-- The blocks that an act may change. -/
def Of3 (p b x : Nat) (i : Nat) : Prop := (i = p ∨ i = b) ∨ i = x
theorem Tw.off (h : Tw B w p b x E lost V R) : Off w (Of3 p b x) := by
  obtain ⟨K, G, hn, hG⟩ := h.nt
  obtain ⟨s, hr⟩ := h.rf
  rintro i (hi | hi)
  · exact hn.offp i hi
  · exact hr.offx i hi
/-- The program's net has turned, and then the document's. -/
theorem Tw.turn (h : Tw B w p b x E lost V R) {W : World} {lost' : Int} {V' : List (Fl Pl)} (hB : B ≤ w.heap.size) {G : Nat → Prop} (hG : ∀ i, G i → B ≤ i) (t : Turn w p b E lost' V' G W) : ∃ s, Rn W x s E lost R B ∧ (∃ K' G', Nt W p b E lost' K' V' G' ∧ ∀ i, G' i → B ≤ i) ∧ Keep (fun i => i = p ∨ i = b) w W := by
  obtain ⟨K, G0, hn, hG0⟩ := h.nt
  obtain ⟨s, hr⟩ := h.rf
  obtain ⟨hk, K', G', hn', hm⟩ := t
  refine ⟨s, hr.kept hk (hn.px hr) hn.offp, ⟨K', G', hn', fun i hi => ?_⟩, hk⟩
  rcases hm i hi with h1 | h1
  · exact hG i h1
  · omega
end
end Go.Proofs.Ytellbmghahgjfaa

/-
  All memory of the laws over what was sent: a net, and a row of flights of the law's own.
-/
import Derived.Test.YtellbmghahgjfaaNetV
import Derived.Test.YtellbmghahgjfaaNetK
namespace Go.Proofs.Ytellbmghahgjfaa
open Go.RowKit Go.Maps
open NetM
set_option linter.unusedVariables false
set_option linter.unusedSimpArgs false
set_option maxRecDepth 20000

/-- A flight as the row has it. -/
def shp (f : Fl Pl) : Fl Sv := ⟨f.p, f.x.1⟩
/-- A net at p with the map b, and the row s of what was sent, all made since w. -/
structure Mm (w W : World) (p b : Nat) (lost : Int) (V : List (Fl Pl)) (s : Sv) (S : List (Fl Pl)) : Prop where
  below : Below w.heap.size w W
  net : ∃ K G, Nt W p b 4 lost K V G ∧ ∀ i, G i → w.heap.size ≤ i
  own : OwnK kFl W w.heap.size (sv s) (S.map shp)
  by_ : ∀ f ∈ S, Sl w (sv f.x.1) f.x.2
  hp : w.heap.size ≤ p
  hb : w.heap.size ≤ b
section
variable {w W W' : World} {p b : Nat} {lost : Int} {V : List (Fl Pl)} {s : Sv} {S : List (Fl Pl)}
theorem Mm.row_ne (h : Mm w W p b lost V s S) (i : Nat) (hi : InB s i) : ¬ (i = p ∨ i = b) := by
  obtain ⟨K, G, hn, _⟩ := h.net
  obtain ⟨_, cs, m, hh⟩ := own_typed h.own i hi
  rintro (rfl | rfl)
  · have := hh.symm.trans hn.blk
    injection this with this
    injection this with _ e _
    exact absurd e (by decide)
  · obtain ⟨es, clock, hb, _⟩ := hn.map
    rw [hh] at hb; cases hb
theorem sv_block {s : Sv} {i : Nat} (h : (sv s).ownBlock = some i) : InB s i := by
  obtain ⟨A, n, c⟩ := s
  unfold sv at h
  cases A with
  | none => simp [Value.ownBlock] at h
  | some a => exact ⟨a, rfl, by simpa [Value.ownBlock] using h⟩
/-- The net has turned. -/
theorem Mm.turn (h : Mm w W p b lost V s S) {lost' : Int} {V' : List (Fl Pl)} {G : Nat → Prop} (hG : ∀ i, G i → w.heap.size ≤ i) (t : Turn W p b 4 lost' V' G W') : Mm w W' p b lost' V' s S := by
  obtain ⟨hk, K', G', hn, hm⟩ := t
  have hsz := h.below.size
  refine ⟨Keep.below h.below hk hsz (fun i hi => ?_), ⟨K', G', hn, fun i hi => ?_⟩, h.own.keep fun i hi => ?_, h.by_, h.hp, h.hb⟩
  · rcases hi with rfl | rfl
    · exact h.hp
    · exact h.hb
  · rcases hm i hi with h1 | h1
    · exact hG i h1
    · omega
  · have hin := sv_block hi
    exact hk.block i (h.own.lt i hi).2 (h.row_ne i hin)
theorem Mm.more (h : Mm w W p b lost V s S) (hb : Below W.heap.size W W') : Mm w W' p b lost V s S := by
  obtain ⟨K, G, hn, hG⟩ := h.net
  exact h.turn hG (Turn.same hn hb)
/-- The row has grown, or is another one. -/
theorem Mm.row (h : Mm w W p b lost V s S) {s' : Sv} {S' : List (Fl Pl)} (hg : W.grownBy W' (sv s).ownBlock) (ho : OwnK kFl W' w.heap.size (sv s') (S'.map shp)) (hS : ∀ f ∈ S', Sl w (sv f.x.1) f.x.2) : Mm w W' p b lost V s' S' := by
  obtain ⟨K, G, hn, hG⟩ := h.net
  have hk : Keep (fun i => (sv s).ownBlock = some i) W W' := Keep.of_grown hg fun k e => e
  have hsz := h.below.size
  refine ⟨Keep.below h.below hk hsz (fun i hi => (h.own.lt i hi).1), ⟨K, G, hn.kept hk (fun e => h.row_ne p (sv_block e) (.inl rfl)) (fun e => h.row_ne b (sv_block e) (.inr rfl)) (fun i hi e => ?_), hG⟩, ho, hS, h.hp, h.hb⟩
  obtain ⟨_, cs, m, hh⟩ := own_typed h.own i (sv_block e)
  obtain ⟨cs', t, m', hh', ht⟩ := hn.gty i hi
  have := hh.symm.trans hh'
  injection this with this
  injection this with _ e2 _
  rcases ht with rfl | rfl <;> exact absurd e2 (by decide)
theorem Mm.grow (h : Mm w W p b lost V s S) {v' : Value} {q : Pr} {u : Sv} {bs : List UInt8} (hg : W.grownBy W' (sv s).ownBlock) (ho : OwnK kFl W' w.heap.size v' (S.map shp ++ [⟨q, u⟩])) (hu : Sl w (sv u) bs) : ∃ s', v' = sv s' ∧ Mm w W' p b lost V s' (S ++ [⟨q, (u, bs)⟩]) := by
  obtain ⟨A, c, rfl⟩ := ho.shape
  refine ⟨(A, _, c), rfl, h.row hg (by rw [List.map_append]; exact ho) fun f hf => ?_⟩
  rcases List.mem_append.1 hf with hf | hf
  · exact h.by_ f hf
  · obtain rfl := List.mem_singleton.1 hf
    exact hu
end
section
variable {α : Type} {k : Kd α}
theorem heldOp_append_k {P : Program} {o : Oper} {a : Act} {w : World} {K : Act → World → Prop} {Q : Exit → Act → World → Prop} (s x : Operand) (t : TypeId)
    (ho : o.op = .call { callee := .builtin .append, args := #[s, x], argTypes := #[t, t] })
    (base : Nat) (i : TypeInfo) (ht : P.underlying t = some (.slice k.ty)) (hi : P.info? k.ty = some i) (hz : i.zero = some k.zero) (hsize : i.size = k.sz) (hby : i.bytes = k.by_) (v : Value) (l : List α) (hs : a.eval s = v) (hown : OwnK k w base v l)
    (v2 : Value) (m : List α) (hx : a.eval x = v2) (hm : SlK k w v2 m) (h63 : l.length + m.length ≤ maxLen) (hlen : (l.length + m.length) * k.by_ ≤ 140737488355328) (hbase : base ≤ w.heap.size)
    (h : ∀ v' w', OwnK k w' base v' (l ++ m) → w.grownBy w' v.ownBlock → Newer w.heap.size v v' → K (a.put o.dst v') w') : Oper.wp P o a w K Q := by
  obtain ⟨v', w', hr, h2, h3, h5⟩ := run_append_k (P := P) w base t o.type i ht hi hz hsize hby v l hown v2 m hm h63 hlen hbase
  unfold Oper.wp execOp
  simp only [ho, resolve, invoke, builtin, Sem.run_bind, Sem.run_pure, Result.andThen_ok, List.map_toArray, List.map_cons, List.map_nil, hs, hx, hr]
  exact h v' w' h2 h3 h5
end
end Go.Proofs.Ytellbmghahgjfaa

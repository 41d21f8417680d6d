/-
  A net in memory: its three cells, its map, the rows of its lines, their bytes; what a look into the map finds.
-/
import Derived.Test.YtellbmghahgjfaaNetA
namespace Go.Proofs.Ytellbmghahgjfaa
open Go.RowKit Go.Maps Go.WideShapes Go.WideMaps
open NetM
set_option linter.unusedVariables false
set_option linter.unusedSimpArgs false
set_option maxRecDepth 20000

/-- A slice, plainly: where it stands, how long it is, how far it goes. -/
abbrev Sv := Option Addr × Nat × Nat
def sv (s : Sv) : Value := .slice s.1 s.2.1 s.2.2
def nilS : Sv := (none, 0, 0)
theorem sv_inj {a b : Sv} (h : sv a = sv b) : a = b := by
  unfold sv at h
  injection h with h1 h2 h3
  exact Prod.ext h1 (Prod.ext h2 h3)
theorem Sl.to_sv {w : World} {v : Value} {l : List UInt8} (h : Sl w v l) : ∃ s, v = sv s := by
  obtain ⟨A, n, c, rfl⟩ := h.shape
  exact ⟨(A, n, c), rfl⟩
/-- The slice stands in this block. -/
def InB (s : Sv) (i : Nat) : Prop := ∃ a, s.1 = some a ∧ a.block = i
/-- Lists of bytes. -/
def kSl : Kd Sv where
  ty := 37
  sz := 1
  by_ := 24
  zero := .slice none 0 0
  en s := [sv s]
  len _ := rfl
  one i u hu := by simp at hu; subst hu; rfl
  pos := by decide
  zs := rfl
theorem info_sl : (Try.prog.info? 37).map (fun i => (i.zero, i.size, i.bytes)) = some (some (.slice none 0 0), 1, 24) := by kernel_rfl
/-- Lines. -/
def kLn : Kd Sv where
  ty := 62
  sz := 1
  by_ := 24
  zero := .slice none 0 0
  en s := [sv s]
  len _ := rfl
  one i u hu := by simp at hu; subst hu; rfl
  pos := by decide
  zs := rfl
/-- Flights. -/
def kFl : Kd (Fl Sv) where
  ty := 44
  sz := 3
  by_ := 40
  zero := .agg #[.int .i64 0, .int .i64 0, .slice none 0 0]
  en f := [.int .i64 f.p.1, .int .i64 f.p.2, sv f.x]
  len _ := rfl
  one i u hu := by
    simp at hu
    rcases hu with rfl | rfl | rfl <;> rfl
  pos := by decide
  zs := rfl
theorem info_fl : (Try.prog.info? 44).map (fun i => (i.zero, i.size, i.bytes)) = some (some (.agg #[.int .i64 0, .int .i64 0, .slice none 0 0]), 3, 40) := by kernel_rfl
/-- What a flight bears: a slice, its bytes. -/
abbrev Pl := Sv × List UInt8
/-- The map's datum. -/
def heldR (v : Value) : Option (DataW Value × List MemPlace) := some (.held v, [])
def svD (s : Sv) : DataW Value := .held (sv s)
abbrev Kl := List (Pr × Sv)
/-- The line of two ends. -/
def lineAt : Kl → Pr → Sv
  | [], _ => nilS
  | q :: K, p => if q.1 = p then q.2 else lineAt K p
theorem lineAt_none {K : Kl} {p : Pr} (h : p ∉ K.map Prod.fst) : lineAt K p = nilS := by
  induction K with
  | nil => rfl
  | cons q K ih =>
    simp only [List.map_cons, List.mem_cons, not_or] at h
    rw [lineAt, if_neg (fun e => h.1 e.symm), ih h.2]
theorem lineAt_mem {K : Kl} {p : Pr} (h : p ∈ K.map Prod.fst) : (p, lineAt K p) ∈ K := by
  induction K with
  | nil => cases h
  | cons q K ih =>
    by_cases e : q.1 = p
    · rw [lineAt, if_pos e, ← e]; exact List.mem_cons_self
    · rw [lineAt, if_neg e]
      simp only [List.map_cons, List.mem_cons] at h
      exact List.mem_cons_of_mem _ (ih (h.resolve_left (fun h => e h.symm)))
theorem lineAt_of {K : Kl} (h : OkL K) {p : Pr} {s : Sv} (hm : (p, s) ∈ K) : lineAt K p = s := by
  have h1 : (p, lineAt K p) ∈ K := lineAt_mem (List.mem_map.2 ⟨_, hm, rfl⟩)
  by_cases e : (p, lineAt K p) = (p, s)
  · injection e
  · exact (apart_ne h h1 hm e rfl).elim
theorem zeroLn (w : World) : (zeroValue 62).run Try.prog w = .ok (sv nilS) w := by kernel_rfl
theorem lineAt_put (K : Kl) (p q : Pr) (s : Sv) : lineAt ((p, s) :: butD p K) q = if p = q then s else lineAt K q := by
  rw [lineAt]
  by_cases e : p = q
  · rw [if_pos e, if_pos e]
  · rw [if_neg e, if_neg e]
    induction K with
    | nil => rfl
    | cons r K ih =>
      unfold butD at ih ⊢
      rw [List.filter_cons]
      by_cases h : r.1 = p
      · rw [if_neg (by simp [h]), lineAt, if_neg (by rw [h]; exact e), ih]
      · rw [if_pos (by simp [h]), lineAt, lineAt, ih]

theorem ownsMap_keep {H : Type} {S : Nat → Prop} {w w' : World} {P : Program} {k : TypeId} {R : Value → Option (DataW H × List MemPlace)} {b n : Nat} {D : DataW H} (h : w.ownsMap P k R b n D) (kp : Keep S w w') (hb : ¬ S b) : w'.ownsMap P k R b n D := by
  have hlt := h.lt
  obtain ⟨es, clock, hh, F, hs, hD⟩ := h
  exact ⟨es, clock, (kp.block b hlt hb).trans hh, F, hs, hD⟩
theorem ownsMap_exact_ {H : Type} {w : World} {P : Program} {k : TypeId} {R : Value → Option (DataW H × List MemPlace)} {b n : Nat} {D : DataW H} (h : w.ownsMap P k R b n D) : w.ownsMap P k R b (Maps.size D) D := by
  obtain ⟨es, clock, hb, F, hs, rfl⟩ := h
  exact ⟨es, clock, hb, F, by simp [Maps.size, length_sorted], rfl⟩
theorem InB.sl {w w' : World} {S : Nat → Prop} {s : Sv} {l : List UInt8} (h : Sl w (sv s) l) (kp : Keep S w w') (hn : ∀ i, InB s i → ¬ S i) : Sl w' (sv s) l := by
  obtain ⟨A, c, e, hc, ha⟩ := h
  have e' := e
  unfold sv at e'
  injection e' with e1 e2 e3
  refine ⟨A, c, e, hc, fun h0 => ?_⟩
  obtain ⟨b, o, rfl, hx⟩ := ha h0
  exact ⟨b, o, rfl, fun j hj => kp.cell (hx j hj) (hn b ⟨_, e1, rfl⟩)⟩
theorem InB.slk {α : Type} {k : Kd α} {w w' : World} {S : Nat → Prop} {s : Sv} {L : List α} (h : SlK k w (sv s) L) (kp : Keep S w w') (hn : ∀ i, InB s i → ¬ S i) : SlK k w' (sv s) L := by
  obtain ⟨A, c, e, hc, ha⟩ := h
  have e' := e
  unfold sv at e'
  injection e' with e1 e2 e3
  refine ⟨A, c, e, hc, fun h0 => ?_⟩
  obtain ⟨b, o, rfl, hx⟩ := ha h0
  exact ⟨b, o, rfl, fun j u hu => kp.cell (hx j u hu) (hn b ⟨_, e1, rfl⟩)⟩

/-- A net at p with the map b: E ends, so many lost, its lines K, its flights V; G holds of all blocks of its lines and their bytes. -/
structure Nt (w : World) (p b : Nat) (E lost : Int) (K : Kl) (V : List (Fl Pl)) (G : Nat → Prop) : Prop where
  blk : Blk w p 55 #[.int .i64 E, .map (some b), .int .i64 lost]
  map : w.ownsMap Try.prog 61 heldR b K.length (MD svD K)
  ok : OkL K
  keys : ∀ q ∈ K, InR 16 q.1
  row : ∀ q, SlK kSl w (sv (lineAt K q)) ((lineOf V q).map Prod.fst)
  by_ : ∀ f ∈ V, Sl w (sv f.x.1) f.x.2
  inl : ∀ q i, InB (lineAt K q) i → G i
  inb : ∀ f ∈ V, ∀ i, InB f.x.1 i → G i
  gty : ∀ i, G i → ∃ cs t m, w.heap[i]? = some (.cells cs t m) ∧ (t = 5 ∨ t = 37)
  sorted : Sorted V
  inr : ∀ f ∈ V, InR E f.p
  ends : 1 ≤ E ∧ E ≤ 16
  lens : ∀ f ∈ V, f.x.2.length ≤ 1048576
  full : ∀ q, (lineOf V q).length ≤ 64
  lst : 0 ≤ lost
section
variable {w w' : World} {p b : Nat} {E lost : Int} {K : Kl} {V : List (Fl Pl)} {G : Nat → Prop}
theorem Nt.gp (h : Nt w p b E lost K V G) : ¬ G p := by
  intro hg
  obtain ⟨cs, t, m, hh, ht⟩ := h.gty p hg
  have := hh.symm.trans h.blk
  injection this with this
  injection this with _ e _
  rcases ht with rfl | rfl <;> exact absurd e (by decide)
theorem Nt.gb (h : Nt w p b E lost K V G) : ¬ G b := by
  intro hg
  obtain ⟨cs, t, m, hh, ht⟩ := h.gty b hg
  obtain ⟨es, clock, hb, _⟩ := h.map
  rw [hh] at hb; cases hb
theorem Nt.pb (h : Nt w p b E lost K V G) : p ≠ b := by
  rintro rfl
  obtain ⟨es, clock, hb, _⟩ := h.map
  have := h.blk
  unfold Blk at this
  rw [this] at hb; cases hb
theorem Nt.glt (h : Nt w p b E lost K V G) : ∀ i, G i → i < w.heap.size := by
  intro i hi
  obtain ⟨cs, t, m, hh, _⟩ := h.gty i hi
  exact (Array.getElem?_eq_some_iff.1 hh).1
theorem Nt.kept {S : Nat → Prop} (h : Nt w p b E lost K V G) (k : Keep S w w') (hp : ¬ S p) (hb : ¬ S b) (hG : ∀ i, G i → ¬ S i) : Nt w' p b E lost K V G :=
  ⟨h.blk.kept k hp, ownsMap_keep h.map k hb, h.ok, h.keys, fun q => InB.slk (h.row q) k fun i hi => hG i (h.inl q i hi), fun f hf => InB.sl (h.by_ f hf) k fun i hi => hG i (h.inb f hf i hi), h.inl, h.inb,
   fun i hi => by obtain ⟨cs, t, m, hh, ht⟩ := h.gty i hi; exact ⟨cs, t, m, (k.block i (h.glt i hi) (hG i hi)).trans hh, ht⟩, h.sorted, h.inr, h.ends, h.lens, h.full, h.lst⟩
theorem Nt.below (h : Nt w p b E lost K V G) (hb : Below w.heap.size w w') : Nt w' p b E lost K V G := h.kept (S := fun _ => False) (.of_below hb) (fun h => h) (fun h => h) (fun _ _ h => h)
theorem NetM.InR.ok {E : Int} {q : Pr} (h : InR E q) (hE : E ≤ 16) : OkP q := by unfold InR at h; unfold OkP; omega
/-- A look into the map. -/
theorem Nt.look (h : Nt w p b E lost K V G) {q : Pr} (hq : OkP q) : (Instr.lookup 53 (.map (some b)) (pval q) false).run Try.prog w = .ok (sv (lineAt K q)) w := by
  obtain ⟨v, ps, hrun, hv⟩ := h.map.lookup prK Try.underlying53 (zeroLn w) (zd := svD nilS) (zp := []) rfl (keyOf_pr hq)
  unfold heldR at hv
  injection hv with hv
  injection hv with e _
  have : v = sv (lineAt K q) := by
    by_cases hm : q ∈ K.map Prod.fst
    · rw [atKey_MD h.ok (lineAt_mem hm)] at e
      injection e
    · rw [atKey_MD_none h.ok hq hm] at e
      rw [lineAt_none hm]
      injection e
  rw [hrun, this]
theorem lineAt_len (h : Nt w p b E lost K V G) (q : Pr) : (lineAt K q).2.1 = (lineOf V q).length := by
  obtain ⟨A, c, e, _⟩ := h.row q
  unfold sv at e
  injection e with _ e2 _
  rw [e2, List.length_map]
/-- There are not more lines than pairs. -/
theorem Nt.few (h : Nt w p b E lost K V G) : K.length ≤ 256 := by
  have hn : (K.map Prod.fst).Nodup := by
    rw [List.nodup_iff_pairwise_ne, List.pairwise_map]
    exact h.ok.1
  have hs : ∀ x ∈ K.map Prod.fst, x ∈ (List.range 256).map key := by
    intro x hx
    obtain ⟨q, hq, rfl⟩ := List.mem_map.1 hx
    obtain ⟨k, hk, e⟩ := (h.keys q hq).key
    rw [e]
    exact List.mem_map.2 ⟨k, List.mem_range.2 hk, rfl⟩
  have := nodup_len hn hs
  simpa using this
/-- The line of two ends is another one. -/
theorem Nt.put (h : Nt w p b E lost K V G) {q : Pr} (hq : InR E q) (s' : Sv) (V' : List (Fl Pl)) (L' : List Pl) (G' : Nat → Prop) (hrow : SlK kSl w (sv s') (L'.map Prod.fst)) (hV : ∀ r, lineOf V' r = if q = r then L' else lineOf V r) (hsort : Sorted V')
    (hby : ∀ f ∈ V', f ∈ V ∨ (f.p = q ∧ Sl w (sv f.x.1) f.x.2 ∧ f.x.2.length ≤ 1048576 ∧ ∀ i, InB f.x.1 i → G' i)) (hfull : L'.length ≤ 64) (hG : ∀ i, G i → G' i) (hG' : ∀ i, InB s' i → G' i) (hty : ∀ i, G' i → ∃ cs t m, w.heap[i]? = some (.cells cs t m) ∧ (t = 5 ∨ t = 37)) :
    ∃ w', (Instr.mapUpdate 53 (.map (some b)) (pval q) (sv s')).run Try.prog w = .ok () w' ∧ Nt w' p b E lost ((q, s') :: butD q K) V' G' ∧ w.grownBy w' (some b) := by
  have hok := hq.ok h.ends.2
  obtain ⟨w', hrun, ho, hg⟩ := h.map.update prK Try.underlying53 (by have := h.few; unfold maxLen; omega) (keyOf_pr hok) (val := sv s') (d := svD s') (ps := []) rfl
  rw [put_MD h.ok hok s'] at ho
  have ho := ownsMap_exact_ ho
  rw [size_MD] at ho
  have k : Keep (fun i => i = b) w w' := .of_grown hg (fun k e => by injection e with e; exact e.symm)
  have hgb : ∀ i, G' i → i ≠ b := by
    rintro i hi rfl
    obtain ⟨cs, t, m, hh, _⟩ := hty i hi
    obtain ⟨es, clock, hb, _⟩ := h.map
    rw [hh] at hb; cases hb
  have hrow' : ∀ r, SlK kSl w' (sv (lineAt ((q, s') :: butD q K) r)) ((lineOf V' r).map Prod.fst) := by
    intro r
    rw [hV, lineAt_put]
    by_cases e : q = r
    · rw [if_pos e, if_pos e]
      exact InB.slk hrow k fun i hi => hgb i (hG' i hi)
    · rw [if_neg e, if_neg e]
      exact InB.slk (h.row r) k fun i hi => hgb i (hG i (h.inl r i hi))
  refine ⟨w', hrun, ⟨h.blk.kept k h.pb, ho, h.ok.put hok s', fun x hx => ?_, hrow', fun f hf => ?_, fun r i hi => ?_, fun f hf i hi => ?_, fun i hi => ?_, hsort, fun f hf => ?_, h.ends, fun f hf => ?_, fun r => ?_, h.lst⟩, hg⟩
  · rcases List.mem_cons.1 hx with rfl | hx
    · exact hq.mono h.ends.2
    · exact h.keys x (List.mem_filter.1 hx).1
  · rcases hby f hf with hf | ⟨_, hs, _, hi⟩
    · exact InB.sl (h.by_ f hf) k fun i hi => hgb i (hG i (h.inb f hf i hi))
    · exact InB.sl hs k fun i hi' => hgb i (hi i hi')
  · rw [lineAt_put] at hi
    by_cases e : q = r
    · rw [if_pos e] at hi; exact hG' i hi
    · rw [if_neg e] at hi; exact hG i (h.inl r i hi)
  · rcases hby f hf with hf | ⟨_, _, _, hh⟩
    · exact hG i (h.inb f hf i hi)
    · exact hh i hi
  · obtain ⟨cs, t, m, hh, ht⟩ := hty i hi
    exact ⟨cs, t, m, (k.block i (Array.getElem?_eq_some_iff.1 hh).1 (hgb i hi)).trans hh, ht⟩
  · rcases hby f hf with hf | ⟨e, _⟩
    · exact h.inr f hf
    · rw [e]; exact hq
  · rcases hby f hf with hf | ⟨_, _, hl, _⟩
    · exact h.lens f hf
    · exact hl
  · rw [hV]
    split
    · exact hfull
    · exact h.full r
/-- A row of one's own is typed, its block is new. -/
theorem own_typed {α : Type} {k : Kd α} {base : Nat} {s : Sv} {L : List α} (h : OwnK k w base (sv s) L) (i : Nat) (hi : InB s i) : base ≤ i ∧ ∃ cs m, w.heap[i]? = some (.cells cs k.ty m) := by
  obtain ⟨a, ha, hb⟩ := hi
  rcases h.2 with ⟨e, _⟩ | ⟨g, cap, cur, e, hg, hh, _⟩
  · unfold sv at e; injection e with e; rw [ha] at e; cases e
  · unfold sv at e
    injection e with e _ _
    rw [ha] at e
    injection e with e
    subst e
    simp at hb
    subst hb
    exact ⟨hg, cur, _, hh⟩
theorem Own.typed {base : Nat} {e : TypeId} {s : Sv} {l : List UInt8} (h : Own w base e (sv s) l) (i : Nat) (hi : InB s i) : base ≤ i ∧ ∃ cs m, w.heap[i]? = some (.cells cs e m) := by
  obtain ⟨a, ha, hb⟩ := hi
  rcases h.2 with ⟨e, _⟩ | ⟨g, cap, cur, e, hg, hh, _⟩
  · unfold sv at e; injection e with e; rw [ha] at e; cases e
  · unfold sv at e
    injection e with e _ _
    rw [ha] at e
    injection e with e
    subst e
    simp at hb
    subst hb
    exact ⟨hg, cur, _, hh⟩
end
end Go.Proofs.Ytellbmghahgjfaa

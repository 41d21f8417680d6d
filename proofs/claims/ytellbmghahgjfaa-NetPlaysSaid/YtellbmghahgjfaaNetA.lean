/-
  Memory words of net's walks: what is kept, rows of any kind of elements; maps keyed by two ends. No function of the program is walked here.
-/
import Derived.Test.YtellbmghahgjfaaCrcMem
import Derived.Test.YtellbmghahgjfaaNetM
import Derived.Test.YtellbmghahgjfaaProg
import Derived.Maps.Ext
import Derived.Maps.Keyed
import Derived.Maps.OwnSet
import Derived.DeepKeys4
namespace Go.Proofs.Ytellbmghahgjfaa
open Go.RowKit Go.Maps Go.WideShapes Go.WideMaps
open NetM
set_option linter.unusedVariables false
set_option linter.unusedSimpArgs false
set_option maxRecDepth 20000

/-! What is kept from world to world: all blocks but those of S. -/
structure Keep (S : Nat → Prop) (w w' : World) : Prop where
  os : w'.os = w.os
  tape : w'.tape = w.tape
  output : w'.output = w.output
  size : w.heap.size ≤ w'.heap.size
  block : ∀ k, k < w.heap.size → ¬ S k → w'.heap[k]? = w.heap[k]?
theorem Keep.of_below {S : Nat → Prop} {w w' : World} (h : Below w.heap.size w w') : Keep S w w' := ⟨h.os, h.tape, h.output, h.size, fun k hk _ => h.block k hk⟩
theorem Keep.refl (S : Nat → Prop) (w : World) : Keep S w w := .of_below (Below.refl _ _)
theorem Keep.trans {S T U : Nat → Prop} {a b c : World} (h : Keep S a b) (k : Keep T b c) (hS : ∀ i, S i → U i) (hT : ∀ i, i < a.heap.size → T i → U i) : Keep U a c :=
  ⟨k.os.trans h.os, k.tape.trans h.tape, k.output.trans h.output, Nat.le_trans h.size k.size, fun i hi hn => (k.block i (Nat.lt_of_lt_of_le hi h.size) fun ht => hn (hT i hi ht)).trans (h.block i hi fun hs => hn (hS i hs))⟩
theorem Keep.below {S : Nat → Prop} {B : Nat} {a b c : World} (h : Below B a b) (k : Keep S b c) (hB : B ≤ b.heap.size) (hS : ∀ i, S i → B ≤ i) : Below B a c :=
  ⟨k.os.trans h.os, k.tape.trans h.tape, k.output.trans h.output, Nat.le_trans h.size k.size, fun i hi => (k.block i (by omega) fun hs => by have := hS i hs; omega).trans (h.block i hi)⟩
theorem Keep.of_grown {S : Nat → Prop} {w w' : World} {row : Option Nat} (h : w.grownBy w' row) (hr : ∀ k, row = some k → S k) : Keep S w w' :=
  ⟨h.os, h.tape, h.output, h.size, fun k hk hn => h.block k hk fun e => hn (hr k e.symm)⟩
theorem Keep.setCell {S : Nat → Prop} (w : World) (p : Addr) (u : Value) (hS : S p.block) : Keep S w (w.setCell p u) :=
  ⟨rfl, rfl, rfl, Nat.le_of_eq (by unfold World.setCell; simp), fun k hk hn => Below.heap_setCell w p u k fun e => hn (e ▸ hS)⟩
theorem Keep.cell {S : Nat → Prop} {w w' : World} (h : Keep S w w') {p : Addr} {u : Value} (hu : w.cell? p = some u) (hn : ¬ S p.block) : w'.cell? p = some u :=
  (World.cell?_of_block (h.block p.block (World.block_lt_of_cell? w p hu) hn)).trans hu
theorem Keep.mono {S T : Nat → Prop} {w w' : World} (h : Keep S w w') (hT : ∀ i, S i → T i) : Keep T w w' :=
  ⟨h.os, h.tape, h.output, h.size, fun k hk hn => h.block k hk fun e => hn (hT k e)⟩
theorem Blk.kept {S : Nat → Prop} {w w' : World} {g : Nat} {t : TypeId} {cs : Array Value} (h : Blk w g t cs) (k : Keep S w w') (hn : ¬ S g) : Blk w' g t cs := (k.block g h.lt hn).trans h
/-- The row v' is v's block, or a newer one than all of a world of size n. -/
def Newer (n : Nat) (v v' : Value) : Prop := ∀ i, v'.ownBlock = some i → v.ownBlock = some i ∨ n ≤ i
section
variable {P : Program} (w : World)
theorem run_append_nil_of (base : Nat) (t ty e : TypeId) (i : TypeInfo) (size : Nat) (ht : P.underlying t = some (.slice e)) (hi : P.info? e = some i) (hs : i.size = size)
    (v : Value) (n : Nat) (xs : List Value) (hown : w.ownsRow base e size v n xs) (c : Nat) : (Builtin.append_ #[t, t] ty #[v, .slice none 0 c]).run P w = .ok v w := by
  rcases hown.2 with ⟨rfl, rfl⟩ | ⟨g, cap, cur, rfl, _, _, hnc, _⟩
  · simp [Builtin.append_, run_underlying ht, sizeOf, typeInfo, hi, Builtin.lenOf, Builtin.firstCells]
  · simp [Builtin.append_, run_underlying ht, sizeOf, typeInfo, hi, Builtin.lenOf, Builtin.firstCells, hnc, storeCells]
end
/-- A kind of elements: its type, its cells. -/
structure Kd (α : Type) where
  ty : TypeId
  sz : Nat
  by_ : Nat
  zero : Value
  en : α → List Value
  len : ∀ x, (en x).length = sz
  one : ∀ x u, u ∈ en x → u.oneCell' = true
  pos : 0 < sz
  zs : zero.cells.size = sz
variable {α : Type} {k : Kd α}
def cellsK (k : Kd α) (L : List α) : List Value := (L.map k.en).flatten
theorem cellsK_nil : cellsK k [] = [] := rfl
theorem cellsK_cons (x : α) (L : List α) : cellsK k (x :: L) = k.en x ++ cellsK k L := rfl
theorem cellsK_append (L M : List α) : cellsK k (L ++ M) = cellsK k L ++ cellsK k M := by simp [cellsK]
theorem cellsK_length (L : List α) : (cellsK k L).length = L.length * k.sz := by
  induction L with
  | nil => simp [cellsK]
  | cons x L ih => rw [cellsK_cons, List.length_append, k.len, ih, List.length_cons, Nat.succ_mul]; omega
theorem cellsK_get : ∀ (L : List α) (j i : Nat) (hj : j < L.length), i < k.sz → (cellsK k L)[j * k.sz + i]? = (k.en L[j])[i]?
  | [], j, i, hj, _ => absurd hj (by simp)
  | x :: L, 0, i, _, hi => by
    rw [cellsK_cons, Nat.zero_mul, Nat.zero_add, List.getElem?_append_left (by rw [k.len]; exact hi)]; rfl
  | x :: L, j + 1, i, hj, hi => by
    rw [cellsK_cons, List.getElem?_append_right (by rw [k.len, Nat.succ_mul]; omega), k.len, show (j + 1) * k.sz + i - k.sz = j * k.sz + i by rw [Nat.succ_mul]; omega, cellsK_get L j i (by simpa using hj) hi]; rfl
theorem cellsK_one (L : List α) : ∀ u ∈ cellsK k L, u.oneCell' = true := by
  intro u hu
  obtain ⟨l, hl, hu⟩ := List.mem_flatten.1 hu
  obtain ⟨x, _, rfl⟩ := List.mem_map.1 hl
  exact k.one x u hu
theorem cellsK_take (L : List α) (n : Nat) : (cellsK k L).take (n * k.sz) = cellsK k (L.take n) := by
  have e : cellsK k L = cellsK k (L.take n) ++ cellsK k (L.drop n) := by rw [← cellsK_append, List.take_append_drop]
  rw [e]
  by_cases h : n ≤ L.length
  · exact List.take_left' (by rw [cellsK_length, List.length_take, Nat.min_eq_left h])
  · rw [List.drop_eq_nil_of_le (by omega), cellsK_nil, List.append_nil, List.take_of_length_le]
    rw [cellsK_length, List.length_take]
    exact Nat.mul_le_mul_right _ (by omega)
/-- A slice that reads as these elements. -/
def SlK (k : Kd α) (w : World) (v : Value) (L : List α) : Prop :=
  ∃ A c, v = .slice A L.length c ∧ L.length ≤ c ∧ (0 < L.length → ∃ b o, A = some ⟨b, o, none⟩ ∧ ∀ j u, (cellsK k L)[j]? = some u → w.cell? ⟨b, o + j, none⟩ = some u)
/-- A row of the call's own. -/
def OwnK (k : Kd α) (w : World) (base : Nat) (v : Value) (L : List α) : Prop := w.ownsRow base k.ty k.sz v L.length (cellsK k L)
section
variable {w w' : World} {v : Value} {L : List α} {base : Nat}
theorem SlK.nil (A : Option Addr) (c : Nat) : SlK k w (.slice A 0 c) [] := ⟨A, c, rfl, Nat.zero_le _, fun h => absurd h (by simp)⟩
theorem SlK.keep (h : SlK k w v L) (hk : ∀ p : Addr, ∀ u, w.cell? p = some u → w'.cell? p = some u) : SlK k w' v L := by
  obtain ⟨A, c, rfl, hc, ha⟩ := h
  refine ⟨A, c, rfl, hc, fun hn => ?_⟩
  obtain ⟨b, o, rfl, hx⟩ := ha hn
  exact ⟨b, o, rfl, fun j u hu => hk _ _ (hx j u hu)⟩
theorem SlK.below (h : SlK k w v L) (hb : Below w.heap.size w w') : SlK k w' v L := h.keep fun p u hu => (hb.cell (World.block_lt_of_cell? w p hu)).trans hu
theorem SlK.shape (h : SlK k w v L) : ∃ A c, v = .slice A L.length c := by
  obtain ⟨A, c, rfl, _⟩ := h
  exact ⟨A, c, rfl⟩
theorem SlK.at_ {A : Option Addr} {n c : Nat} (h : SlK k w (.slice A n c) L) (j : Nat) (hj : j < L.length) : ∃ b o, A = some ⟨b, o, none⟩ ∧ ∀ i, i < k.sz → w.cell? ⟨b, o + (j * k.sz + i), none⟩ = (k.en L[j])[i]? := by
  obtain ⟨A', c', e, hc, ha⟩ := h
  injection e with e1 e2 e3
  subst e1
  obtain ⟨b, o, rfl, hx⟩ := ha (by omega)
  refine ⟨b, o, rfl, fun i hi => ?_⟩
  have hg := cellsK_get (k := k) L j i hj hi
  have hlt : i < (k.en L[j]).length := by rw [k.len]; exact hi
  rw [List.getElem?_eq_getElem hlt] at hg ⊢
  exact hx _ _ hg
theorem OwnK.nil : OwnK k w base (.slice none 0 0) [] := World.ownsRow_nil w base _ _
theorem OwnK.alloc (h : OwnK k w base v L) (o : Obj) : OwnK k (w.alloc o) base v L := World.ownsRow.alloc h o
theorem OwnK.lt (h : OwnK k w base v L) : ∀ i, v.ownBlock = some i → base ≤ i ∧ i < w.heap.size := World.ownsRow.lt h
theorem OwnK.keep (h : OwnK k w base v L) (hk : ∀ i, v.ownBlock = some i → w'.heap[i]? = w.heap[i]?) : OwnK k w' base v L := by
  refine ⟨h.1, ?_⟩
  rcases h.2 with h2 | ⟨g, cap, cur, hv, hg, hh, r⟩
  · exact .inl h2
  · exact .inr ⟨g, cap, cur, hv, hg, (hk g (by rw [hv]; rfl)).trans hh, r⟩
theorem OwnK.below (h : OwnK k w base v L) (hb : Below w.heap.size w w') : OwnK k w' base v L := h.keep fun i hi => hb.block i (h.lt i hi).2
theorem OwnK.mono {B : Nat} (h : OwnK k w base v L) (hB : B ≤ base) : OwnK k w B v L := by
  refine ⟨h.1, ?_⟩
  rcases h.2 with h2 | ⟨g, cap, cur, hv, hg, hh, r⟩
  · exact .inl h2
  · exact .inr ⟨g, cap, cur, hv, by omega, hh, r⟩
theorem OwnK.slk (h : OwnK k w base v L) : SlK k w v L := by
  rcases h.2 with ⟨rfl, h0⟩ | ⟨g, cap, cur, rfl, _, hh, hnc, _, hs, ht⟩
  · refine ⟨none, 0, by rw [h0], by omega, fun hn => absurd hn (by omega)⟩
  · refine ⟨some ⟨g, 0, none⟩, cap, rfl, hnc, fun _ => ⟨g, 0, rfl, fun j u hu => ?_⟩⟩
    have := World.ownsRow.cells h (g := g) rfl j u hu
    rw [add_plain] at this
    exact this
theorem OwnK.shape (h : OwnK k w base v L) : ∃ A c, v = .slice A L.length c := h.slk.shape
/-- One element in a block just made. -/
theorem SlK.one (w : World) (x : α) (C : Array Value) (hC : C.toList = k.en x) : SlK k (w.alloc (.cells C k.ty)) (.slice (some ⟨w.heap.size, 0, none⟩) 1 1) [x] := by
  refine ⟨_, 1, rfl, by simp, fun _ => ⟨_, 0, rfl, fun j u hu => ?_⟩⟩
  rw [Nat.zero_add, (Blk.new w _ _).cell, ← Array.getElem?_toList, hC]
  simpa [cellsK] using hu
theorem run_append_k {P : Program} (w : World) (base : Nat) (t ty : TypeId) (i : TypeInfo) (ht : P.underlying t = some (.slice k.ty)) (hi : P.info? k.ty = some i) (hz : i.zero = some k.zero)
    (hsize : i.size = k.sz) (hby : i.bytes = k.by_) (v : Value) (l : List α) (hown : OwnK k w base v l) (v2 : Value) (m : List α) (hm : SlK k w v2 m) (h63 : l.length + m.length ≤ maxLen) (hlen : (l.length + m.length) * k.by_ ≤ 140737488355328) (hbase : base ≤ w.heap.size) :
    ∃ v' w', (Builtin.append_ #[t, t] ty #[v, v2]).run P w = .ok v' w' ∧ OwnK k w' base v' (l ++ m) ∧ w.grownBy w' v.ownBlock ∧ Newer w.heap.size v v' := by
  obtain ⟨A, c, rfl, hc, ha⟩ := hm
  rcases A with _ | ad
  · have h0 : m = [] := by
      rcases Nat.eq_zero_or_pos m.length with h0 | h0
      · exact List.eq_nil_of_length_eq_zero h0
      · obtain ⟨b, o, h, _⟩ := ha h0
        cases h
    subst h0
    exact ⟨v, w, run_append_nil_of w base t ty _ i _ ht hi hsize v _ _ hown c, by rw [List.append_nil]; exact hown, ⟨rfl, rfl, rfl, Nat.le_refl _, fun _ _ _ => rfl⟩, fun i hi => .inl hi⟩
  · have hcells : ∀ j u, (cellsK k m)[j]? = some u → w.cell? (ad.add j) = some u := by
      intro j u hu
      have hj : 0 < m.length := by
        have := (List.getElem?_eq_some_iff.1 hu).1
        rw [cellsK_length] at this
        rcases Nat.eq_zero_or_pos m.length with h0 | h0
        · rw [h0, Nat.zero_mul] at this; omega
        · exact h0
      obtain ⟨b, o, h, hx⟩ := ha hj
      injection h with h
      subst h
      rw [add_plain]
      exact hx j u hu
    obtain ⟨v', w', hrun, h2, h3, h4, h5⟩ := run_append_own_at (P := P) w base t ty _ i _ k.sz k.by_ ht hi hz hsize hby k.zs k.pos v l.length (cellsK k l) hown ad m.length c (cellsK k m) (cellsK_length m) hcells (cellsK_one m) h63 hlen hbase
    refine ⟨v', w', hrun, by unfold OwnK; rw [List.length_append, cellsK_append]; exact h2, h3, fun i hi => ?_⟩
    rcases h5 with h5 | h5
    · exact .inl (h5 ▸ hi)
    · rw [h5] at hi
      injection hi with hi
      exact .inr (by omega)
theorem wpList_append_k {P : Program} {ops : Array Oper} {rest : List Oper} {o : Oper} {a : Act} {Q : Exit → Act → World → Prop} (hgd : o.guard = none) (s x : Operand) (t : TypeId)
    (ho : o.op = .call { callee := .builtin .append, args := #[s, x], argTypes := #[t, t] })
    (base : Nat) (i : TypeInfo) (ht : P.underlying t = some (.slice k.ty)) (hi : P.info? k.ty = some i) (hz : i.zero = some k.zero) (hsize : i.size = k.sz) (hby : i.bytes = k.by_) (v : Value) (l : List α) (hs : a.eval s = v) (hown : OwnK k w base v l)
    (v2 : Value) (m : List α) (hx : a.eval x = v2) (hm : SlK k w v2 m) (h63 : l.length + m.length ≤ maxLen) (hlen : (l.length + m.length) * k.by_ ≤ 140737488355328) (hbase : base ≤ w.heap.size)
    (h : ∀ v' w', OwnK k w' base v' (l ++ m) → w.grownBy w' v.ownBlock → Newer w.heap.size v v' → wpList P ops Q rest (a.put o.dst v') w') : wpList P ops Q (o :: rest) a w := by
  refine wpList_plain hgd fun K hK => ?_
  obtain ⟨v', w', hr, h2, h3, h5⟩ := run_append_k (P := P) w base t o.type i ht hi hz hsize hby v l hown v2 m hm h63 hlen hbase
  unfold Oper.wp execOp
  simp only [ho, resolve, invoke, builtin, Sem.run_bind, Sem.run_pure, Result.andThen_ok, List.map_toArray, List.map_cons, List.map_nil, hs, hx, hr]
  exact hK _ _ (h v' w' h2 h3 h5)
end

theorem prLaid : laidOutB Try.prog = true := by kernel_rfl
theorem prLaw : KeyLaw Try.prog 61 := deep_law_laid prLaid (m := 2) (by omega) (of_decide_eq_true (by kernel_rfl)) (by kernel_rfl) (by rw [Try.underlying61])
theorem prK : Keyed Try.prog 61 := Keyed.of_law prLaw
/-- A dot as a value. -/
def pval (d : Pr) : Value := .agg #[.int .i64 d.1, .int .i64 d.2]
/-- Its numbers are those of their types. -/
def OkP (d : Pr) : Prop := -9223372036854775808 ≤ d.1 ∧ d.1 ≤ 9223372036854775807 ∧ -9223372036854775808 ≤ d.2 ∧ d.2 ≤ 9223372036854775807
/-- Its key in a map's datum. -/
def litP (d : Pr) : Lit := .string (keyBytes [.int .i64 d.1, .int .i64 d.2])
/-- For any program: a struct of an int and a uint64 as a key. -/
theorem keyOf_two {P : Program} {k ti tu : TypeId} {fs : Array Field} (hu : P.underlying k = some (.struct fs)) {n1 n2 : String} {f1 f2 : Field} (hfs : fs = #[f1, f2]) (h1t : f1.type = ti) (h2t : f2.type = tu) (h1o : f1.offset = 0) (h2o : f2.offset = 1) (hn1 : (f1.name != "_") = true) (hn2 : (f2.name != "_") = true)
    (hi : P.underlying ti = some (.int .i64)) (hq : P.underlying tu = some (.int .i64)) (hc : P.cellsOf k = 2) (hc1 : P.cellsOf ti = 1) (hc2 : P.cellsOf tu = 1) (hk : P.keyType k = true) {m : Nat} (hs : P.types.size = m + 1) {a b : Int} (w1 : (Lit.int .i64 a).wf = true) (w2 : (Lit.int .i64 b).wf = true) :
    keyOf P k (.agg #[.int .i64 a, .int .i64 b]) = some (.string (keyBytes [.int .i64 a, .int .i64 b])) := by
  subst hfs h1t h2t
  have hf : (Value.agg #[Value.int .i64 a, Value.int .i64 b]).formed P k = true := by simp [Value.formed, hu, hc]
  unfold keyOf
  simp only [hu, hk, hf, Bool.and_self, if_true, hs]
  simp [Program.keyLits, hu, hi, hq, hc, hc1, hc2, h1o, h2o, hn1, hn2, Value.cells, w1, w2]
theorem keyOf_pr {d : Pr} (h : OkP d) : keyOf Try.prog 61 (pval d) = some (litP d) := by
  obtain ⟨h1, h2, h3⟩ := h
  have e1 : IntKind.i64.min = -9223372036854775808 := by decide
  have e2 : IntKind.i64.max = 9223372036854775807 := by decide
  have e3 : IntKind.u64.min = 0 := by decide
  have e4 : IntKind.u64.max = 18446744073709551615 := by decide
  have w1 : (Lit.int .i64 d.1).wf = true := by simp only [Lit.wf, Bool.and_eq_true, decide_eq_true_eq, e1, e2]; omega
  have w2 : (Lit.int .i64 d.2).wf = true := by simp only [Lit.wf, Bool.and_eq_true, decide_eq_true_eq, e3, e4]; omega
  exact keyOf_two Try.underlying61 (n1 := "") (n2 := "") rfl rfl rfl rfl rfl (by decide) (by decide) Try.underlying3 Try.underlying3 (by kernel_rfl) (by kernel_rfl) (by kernel_rfl) (by kernel_rfl) (m := Try.prog.types.size - 1) (by kernel_rfl) w1 w2
theorem litP_key (d : Pr) : WideAt.IsKeyLit (litP d) := trivial
theorem litP_inj {a b : Pr} (ha : OkP a) (hb : OkP b) (h : litP a = litP b) : a = b := by
  have := prK.inj (keyOf_pr ha) ((keyOf_pr hb).trans (by rw [h]))
  unfold pval at this
  injection this with this
  have e := congrArg Array.toList this
  simp at e
  obtain ⟨e1, e2⟩ := e
  exact Prod.ext e1 (by exact_mod_cast e2)
theorem litP_of {d : Pr} (h : OkP d) : KeysOf Try.prog 61 (litP d) := ⟨_, keyOf_pr h⟩

section
variable {α : Type} {R : α → DataW Value}
/-- An entry as it reads. -/
def enD (R : α → DataW Value) (p : Pr × α) : Lit × DataW Value := (litP p.1, R p.2)
/-- The map of these entries, as it reads. -/
def MD (R : α → DataW Value) (L : List (Pr × α)) : DataW Value := .map ((L.map (enD R)).foldr DataW.insert [])
/-- No dot twice, and all in their types' bounds. -/
def OkL (L : List (Pr × α)) : Prop := L.Pairwise (fun a b => a.1 ≠ b.1) ∧ ∀ p ∈ L, OkP p.1
/-- The entries at other dots. -/
def butD (d : Pr) (L : List (Pr × α)) : List (Pr × α) := L.filter fun p => !decide (p.1 = d)

theorem OkL.keys {L : List (Pr × α)} (h : OkL L) : Keys (KeysOf Try.prog 61) (L.map (enD R)) := by
  intro p hp
  obtain ⟨x, hx, rfl⟩ := List.mem_map.1 hp
  exact litP_of (h.2 x hx)
theorem OkL.apart {L : List (Pr × α)} (h : OkL L) : (L.map (enD R)).Pairwise (fun p q => p.1 ≠ q.1) := by
  rw [List.pairwise_map]
  exact h.1.imp_of_mem fun {a b} ha hb hne e => hne (litP_inj (h.2 a ha) (h.2 b hb) e)
theorem OkL.perm {L M : List (Pr × α)} (h : OkL L) (hp : L.Perm M) : OkL M :=
  ⟨(hp.pairwise_iff (fun {a b} (h : a.1 ≠ b.1) => h.symm)).1 h.1, fun p hp' => h.2 p (hp.mem_iff.2 hp')⟩
theorem OkL.but {L : List (Pr × α)} (h : OkL L) (d : Pr) : OkL (butD d L) := ⟨h.1.filter _, fun p hp => h.2 p (List.mem_filter.1 hp).1⟩
theorem OkL.put {L : List (Pr × α)} (h : OkL L) {d : Pr} (hd : OkP d) (a : α) : OkL ((d, a) :: butD d L) :=
  ⟨List.pairwise_cons.2 ⟨fun p hp => by have := (List.mem_filter.1 hp).2; simp at this; exact fun e => this e.symm, (h.but d).1⟩, fun p hp => by
    rcases List.mem_cons.1 hp with rfl | hp
    · exact hd
    · exact (h.but d).2 p hp⟩
theorem OkL.nil : OkL ([] : List (Pr × α)) := ⟨List.Pairwise.nil, by simp⟩
theorem but_none {L : List (Pr × α)} {d : Pr} (h : d ∉ L.map Prod.fst) : butD d L = L := by
  unfold butD
  refine List.filter_eq_self.2 fun p hp => ?_
  have : p.1 ≠ d := fun e => h (e ▸ List.mem_map.2 ⟨p, hp, rfl⟩)
  simp [this]

theorem apart_ne : ∀ {L : List (Pr × α)}, OkL L → ∀ {x y : Pr × α}, x ∈ L → y ∈ L → x ≠ y → x.1 ≠ y.1
  | [], _, x, _, hx, _, _ => absurd hx (by simp)
  | z :: L, h, x, y, hx, hy, hne => by
    obtain ⟨h1, h2⟩ := List.pairwise_cons.1 h.1
    rcases List.mem_cons.1 hx with e | hx'
    · rcases List.mem_cons.1 hy with e' | hy'
      · exact absurd (e.trans e'.symm) hne
      · rw [e]; exact h1 y hy'
    · rcases List.mem_cons.1 hy with e' | hy'
      · rw [e']; exact (h1 x hx').symm
      · exact apart_ne ⟨h2, fun p hp => h.2 p (List.mem_cons_of_mem _ hp)⟩ hx' hy' hne
/-- The order of the entries tells nothing. -/
theorem MD_perm {L M : List (Pr × α)} (h : OkL L) (hp : L.Perm M) : MD R L = MD R M := by
  unfold MD
  congr 1
  exact ChangeMaps.eq_of_perm_sorted ((sorted_perm _).trans ((hp.map _).trans (sorted_perm _).symm)) (sorted_sorted prK.one _ h.keys h.apart) (sorted_sorted prK.one _ (h.perm hp).keys (h.perm hp).apart)
theorem filter_enD {L : List (Pr × α)} (h : ∀ p ∈ L, OkP p.1) {d : Pr} (hd : OkP d) : (L.map (enD R)).filter (ChangeMaps.notKey (litP d)) = (butD d L).map (enD R) := by
  unfold butD
  rw [List.filter_map]
  congr 1
  refine List.filter_congr fun p hp => ?_
  have hi := @notKey_iff Value (litP d) (enD R p) (litP_key d)
  by_cases e : p.1 = d
  · have : ¬ (ChangeMaps.notKey (litP d) (enD R p) = true) := fun hc => hi.1 hc (by show litP p.1 = _; rw [e])
    simp [e, this]
  · have : ChangeMaps.notKey (litP d) (enD R p) = true := hi.2 fun hc => e (litP_inj (h p hp) hd hc)
    simp [e, this]
theorem del_MD {L : List (Pr × α)} (h : OkL L) {d : Pr} (hd : OkP d) : (MD R L).del (litP d) = MD R (butD d L) := by
  unfold MD
  rw [DataW.del_eq]
  congr 1
  exact (sorted_del prK.one h.keys h.apart (by rw [filter_enD h.2 hd])).symm
theorem put_MD {L : List (Pr × α)} (h : OkL L) {d : Pr} (hd : OkP d) (a : α) : (MD R L).put (litP d) (R a) = MD R ((d, a) :: butD d L) := by
  unfold MD
  rw [DataW.put_eq]
  congr 1
  refine (sorted_put prK.one (litP_of hd) h.keys h.apart ?_).symm
  rw [filter_enD h.2 hd]
  exact List.Perm.refl _
theorem size_MD (L : List (Pr × α)) : Maps.size (MD R L) = L.length := by
  show List.length _ = _
  rw [length_sorted, List.length_map]
theorem mem_MD {L : List (Pr × α)} {p : Lit × DataW Value} : p ∈ (L.map (enD R)).foldr DataW.insert [] ↔ ∃ x ∈ L, enD R x = p :=
  ((sorted_perm _).mem_iff).trans List.mem_map
theorem has_MD {L : List (Pr × α)} (h : OkL L) {d : Pr} (hd : OkP d) : Maps.has (MD R L) (litP d) = decide (d ∈ L.map Prod.fst) := by
  unfold MD
  rw [Maps.has_eq]
  by_cases hm : d ∈ L.map Prod.fst
  · rw [decide_eq_true hm]
    obtain ⟨x, hx, rfl⟩ := List.mem_map.1 hm
    exact List.any_eq_true.2 ⟨_, mem_MD.2 ⟨x, hx, rfl⟩, WideAt.sameKey_self (litP_key _)⟩
  · rw [decide_eq_false hm]
    refine List.any_eq_false.2 fun p hp hs => ?_
    obtain ⟨x, hx, rfl⟩ := mem_MD.1 hp
    exact hm (List.mem_map.2 ⟨x, hx, litP_inj (h.2 x hx) hd (WideAt.sameKey_eq hs)⟩)
theorem atKey_MD {L : List (Pr × α)} (h : OkL L) {d : Pr} {a : α} (hm : (d, a) ∈ L) (z : DataW Value) : (MD R L).atKey (litP d) z = R a := by
  unfold MD
  simp only [DataW.atKey]
  have hd := h.2 _ hm
  have hin : enD R (d, a) ∈ (L.map (enD R)).foldr DataW.insert [] := mem_MD.2 ⟨_, hm, rfl⟩
  cases hf : ((L.map (enD R)).foldr DataW.insert []).find? fun p => p.1.sameKey (litP d) with
  | none =>
    have := List.find?_eq_none.1 hf _ hin
    exact absurd (WideAt.sameKey_self (litP_key d)) this
  | some p =>
    have h1 := List.find?_some hf
    obtain ⟨x, hx, rfl⟩ := mem_MD.1 (List.mem_of_find?_eq_some hf)
    have e : x.1 = d := litP_inj (h.2 x hx) hd (WideAt.sameKey_eq h1)
    have : x = (d, a) := by
      by_cases hxe : x = (d, a)
      · exact hxe
      · exact absurd e (apart_ne h hx hm hxe)
    subst this
    simp [enD]
theorem atKey_MD_none {L : List (Pr × α)} (h : OkL L) {d : Pr} (hd : OkP d) (hm : d ∉ L.map Prod.fst) (z : DataW Value) : (MD R L).atKey (litP d) z = z := by
  unfold MD
  simp only [DataW.atKey]
  have hn : ((L.map (enD R)).foldr DataW.insert []).find? (fun p => p.1.sameKey (litP d)) = none := ?_
  · rw [hn]
  refine List.find?_eq_none.2 fun p hp hs => ?_
  obtain ⟨x, hx, rfl⟩ := mem_MD.1 hp
  exact hm (List.mem_map.2 ⟨x, hx, litP_inj (h.2 x hx) hd (WideAt.sameKey_eq hs)⟩)
end
end Go.Proofs.Ytellbmghahgjfaa


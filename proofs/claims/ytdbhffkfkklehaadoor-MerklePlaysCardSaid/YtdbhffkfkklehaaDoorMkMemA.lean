/-
  Words for memory: hashes as cells, a slice of hashes, a row of hashes of the call's own, a tree. No function of the program is walked here.
-/
import Derived.Test.YtdbhffkfkklehaaDoorMkMath
import Derived.Test.YtdbhffkfkklehaaDoorShaEq
import Derived.Test.YtdbhffkfkklehaaDoorShaCode
import Derived.Test.YtdbhffkfkklehaaDoorHeldA
namespace Go.Proofs.YtdbhffkfkklehaaDoor
open Go.RowKit
set_option linter.unusedVariables false
set_option linter.unusedSimpArgs false

def hcells (h : List UInt8) : List Value := h.map bv
theorem hcells_length (h : List UInt8) : (hcells h).length = h.length := by simp [hcells]
theorem hcells_arr (h : List UInt8) : (hcells h).toArray = rowB h := rfl
theorem rowB_list (h : List UInt8) : (rowB h).toList = hcells h := by simp [rowB, hcells]
theorem hcells_one (h : List UInt8) : ∀ v ∈ hcells h, v.oneCell' = true := by
  intro v hv
  obtain ⟨c, _, rfl⟩ := List.mem_map.1 hv
  rfl
def hcs (L : List (List UInt8)) : List Value := L.flatMap hcells
theorem hcs_nil : hcs [] = [] := rfl
theorem hcs_cons (h : List UInt8) (L : List (List UInt8)) : hcs (h :: L) = hcells h ++ hcs L := rfl
theorem hcs_append (L M : List (List UInt8)) : hcs (L ++ M) = hcs L ++ hcs M := by unfold hcs; rw [List.flatMap_append]
theorem hcs_single (h : List UInt8) : hcs [h] = hcells h := by simp [hcs]
def All32 (L : List (List UInt8)) : Prop := ∀ x ∈ L, x.length = 32
theorem All32.cons {h : List UInt8} {L : List (List UInt8)} (a : All32 (h :: L)) : h.length = 32 ∧ All32 L := ⟨a h (by simp), fun x hx => a x (by simp [hx])⟩
theorem All32.append {L M : List (List UInt8)} (a : All32 L) (b : All32 M) : All32 (L ++ M) := fun x hx => (List.mem_append.1 hx).elim (a x) (b x)
theorem All32.one {h : List UInt8} (a : h.length = 32) : All32 [h] := fun x hx => by rw [List.mem_singleton.1 hx]; exact a
theorem All32.set {L : List (List UInt8)} (a : All32 L) (i : Nat) {h : List UInt8} (hh : h.length = 32) : All32 (L.set i h) := fun x hx =>
  (List.mem_or_eq_of_mem_set hx).elim (a x) (fun e => by rw [e]; exact hh)
theorem hcs_length : ∀ L : List (List UInt8), All32 L → (hcs L).length = L.length * 32
  | [], _ => rfl
  | h :: L, a => by rw [hcs_cons, List.length_append, hcells_length, a.cons.1, hcs_length L a.cons.2, List.length_cons]; omega
theorem hcs_get : ∀ (L : List (List UInt8)) (_ : All32 L) (j : Nat) (hj : j < L.length) (i : Nat), i < 32 → (hcs L)[j * 32 + i]? = (hcells L[j])[i]?
  | [], _, j, hj, _, _ => absurd hj (by simp)
  | h :: L, a, 0, _, i, hi => by
    rw [hcs_cons, List.getElem?_append_left (by rw [hcells_length, a.cons.1]; omega), Nat.zero_mul, Nat.zero_add]; rfl
  | h :: L, a, j + 1, hj, i, hi => by
    have hl : (hcells h).length = 32 := by rw [hcells_length, a.cons.1]
    rw [hcs_cons, List.getElem?_append_right (by omega), hl, show (j + 1) * 32 + i - 32 = j * 32 + i by omega]
    exact hcs_get L a.cons.2 j (by simpa using hj) i hi
theorem hcs_one (L : List (List UInt8)) : ∀ v ∈ hcs L, v.oneCell' = true := by
  intro v hv
  obtain ⟨h, _, hh⟩ := List.mem_flatMap.1 hv
  exact hcells_one h v hh
theorem hcs_take : ∀ (L : List (List UInt8)) (_ : All32 L) (n : Nat), (hcs L).take (n * 32) = hcs (L.take n)
  | [], _, n => by simp [hcs]
  | h :: L, a, 0 => by simp [hcs]
  | h :: L, a, n + 1 => by
    have hl : (hcells h).length = 32 := by rw [hcells_length, a.cons.1]
    rw [hcs_cons, List.take_append, hl, List.take_of_length_le (by omega), show (n + 1) * 32 - 32 = n * 32 by omega, hcs_take L a.cons.2 n, List.take_succ_cons, hcs_cons]
theorem hcs_set : ∀ (L : List (List UInt8)) (_ : All32 L) (j : Nat) (h : List UInt8), j < L.length → h.length = 32 → hcs (L.set j h) = (hcs L).take (j * 32) ++ hcells h ++ (hcs L).drop (j * 32 + 32)
  | [], _, j, h, hj, _ => absurd hj (by simp)
  | x :: L, a, 0, h, hj, hh => by
    have hl : (hcells x).length = 32 := by rw [hcells_length, a.cons.1]
    rw [List.set_cons_zero, hcs_cons, hcs_cons, Nat.zero_mul, List.take_zero, List.nil_append, Nat.zero_add, List.drop_append, hl, Nat.sub_self, List.drop_zero, List.drop_of_length_le (by omega)]; rfl
  | x :: L, a, j + 1, h, hj, hh => by
    have hl : (hcells x).length = 32 := by rw [hcells_length, a.cons.1]
    have e1 : (hcells x ++ hcs L).take ((j + 1) * 32) = hcells x ++ (hcs L).take (j * 32) := by
      rw [List.take_append, hl, List.take_of_length_le (show (hcells x).length ≤ (j + 1) * 32 by rw [hl]; omega), show (j + 1) * 32 - 32 = j * 32 by omega]
    have e2 : (hcells x ++ hcs L).drop ((j + 1) * 32 + 32) = (hcs L).drop (j * 32 + 32) := by
      rw [List.drop_append, hl, List.drop_of_length_le (show (hcells x).length ≤ (j + 1) * 32 + 32 by rw [hl]; omega), show (j + 1) * 32 + 32 - 32 = j * 32 + 32 by omega, List.nil_append]
    rw [List.set_cons_succ, hcs_cons, hcs_cons, hcs_set L a.cons.2 j h (by simpa using hj) hh, e1, e2]
    simp only [List.append_assoc]

/-- The value v is a slice that reads as the hashes L. -/
def Sh (w : World) (v : Value) (L : List (List UInt8)) : Prop :=
  All32 L ∧ ∃ A c, v = .slice A L.length c ∧ L.length ≤ c ∧ (0 < L.length → ∃ b o, A = some ⟨b, o, none⟩ ∧ ∀ j (h : j < L.length), w.rangeAt b (o + j * 32) (hcells L[j]))
section
variable {w w' : World} {v : Value} {L : List (List UInt8)}
theorem Sh.nil (A : Option Addr) (c : Nat) : Sh w (.slice A 0 c) [] := ⟨fun _ h => (by cases h), A, c, rfl, Nat.zero_le _, fun h => absurd h (by simp)⟩
theorem Sh.all (h : Sh w v L) : All32 L := h.1
theorem Sh.keep (h : Sh w v L) (hk : ∀ p : Addr, ∀ u, v.ownBlock = some p.block → w.cell? p = some u → w'.cell? p = some u) : Sh w' v L := by
  obtain ⟨a, A, c, rfl, hc, ha⟩ := h
  refine ⟨a, A, c, rfl, hc, fun hn => ?_⟩
  obtain ⟨b, o, rfl, hx⟩ := ha hn
  exact ⟨b, o, rfl, fun j hj i u hu => hk _ _ rfl (hx j hj i u hu)⟩
theorem Sh.below (h : Sh w v L) (hb : Below w.heap.size w w') : Sh w' v L :=
  h.keep fun p u _ hu => (hb.cell (World.block_lt_of_cell? w p hu)).trans hu
theorem Sh.grown {g : Nat} (h : Sh w v L) (hb : w.grownBy w' (some g)) (hg : v.ownBlock ≠ some g) : Sh w' v L :=
  h.keep fun p u hp hu => hb.cell hu (fun e => hg (hp.trans e))
theorem Sh.alloc (h : Sh w v L) (o : Obj) : Sh (w.alloc o) v L :=
  h.keep fun p u _ hu => (World.cell?_alloc_lt w o p (World.block_lt_of_cell? w p hu)).trans hu
theorem Sh.drew (h : Sh w v L) : Sh w.drew v L := h
theorem Sh.len {A : Option Addr} {n c : Nat} (h : Sh w (.slice A n c) L) : n = L.length := by
  obtain ⟨_, A, c, e, _⟩ := h
  injection e
theorem Sh.shape (h : Sh w v L) : ∃ A n c, v = .slice A n c := by
  obtain ⟨_, A, c, rfl, _⟩ := h
  exact ⟨A, _, c, rfl⟩
theorem Sh.at_ {A : Option Addr} {n c : Nat} (h : Sh w (.slice A n c) L) (j : Nat) (hj : j < L.length) : ∃ b o, A = some ⟨b, o, none⟩ ∧ w.rangeAt b (o + j * 32) (hcells L[j]) := by
  obtain ⟨_, A, c, e, _, ha⟩ := h
  injection e with e1 e2 e3
  subst e1
  obtain ⟨b, o, rfl, hx⟩ := ha (by omega)
  exact ⟨b, o, rfl, hx j hj⟩
theorem Sh.sizes {A : Option Addr} {n c : Nat} (h : Sh w (.slice A n c) L) : n = L.length ∧ L.length ≤ c := by
  obtain ⟨_, A, c, e, hc, _⟩ := h
  injection e with e1 e2 e3
  subst e3
  exact ⟨e2, hc⟩
end

/-- A row of hashes of the call's own (or nil). -/
def OwnH (w : World) (base : Nat) (v : Value) (L : List (List UInt8)) : Prop := All32 L ∧ w.ownsRow base 39 32 v L.length (hcs L)
section
variable {w w' : World} {base : Nat} {v : Value} {L : List (List UInt8)}
theorem OwnH.nil : OwnH w base (.slice none 0 0) [] := ⟨fun _ h => (by cases h), World.ownsRow_nil w base _ 32⟩
theorem OwnH.all (h : OwnH w base v L) : All32 L := h.1
theorem OwnH.alloc (h : OwnH w base v L) (o : Obj) : OwnH (w.alloc o) base v L := ⟨h.1, World.ownsRow.alloc h.2 o⟩
theorem OwnH.drew (h : OwnH w base v L) : OwnH w.drew base v L := h
theorem OwnH.mono {B : Nat} (h : OwnH w base v L) (hB : B ≤ base) : OwnH w B v L := by
  refine ⟨h.1, h.2.1, ?_⟩
  rcases h.2.2 with h2 | ⟨g, cap, cur, hv, hg, hh, r⟩
  · exact Or.inl h2
  · exact Or.inr ⟨g, cap, cur, hv, by omega, hh, r⟩
theorem OwnH.lt (h : OwnH w base v L) : ∀ k, v.ownBlock = some k → base ≤ k ∧ k < w.heap.size := World.ownsRow.lt h.2
theorem OwnH.keep (h : OwnH w base v L) (hk : ∀ k, v.ownBlock = some k → w'.heap[k]? = w.heap[k]?) : OwnH w' base v L := by
  refine ⟨h.1, h.2.1, ?_⟩
  rcases h.2.2 with h2 | ⟨g, cap, cur, rfl, hg, hh, r⟩
  · exact Or.inl h2
  · exact Or.inr ⟨g, cap, cur, rfl, hg, (hk g rfl).trans hh, r⟩
theorem OwnH.below (h : OwnH w base v L) (hb : Below w.heap.size w w') : OwnH w' base v L :=
  h.keep fun k hk => hb.block k (h.lt k hk).2
theorem OwnH.grown {g : Nat} (h : OwnH w base v L) (hb : w.grownBy w' (some g)) (hg : v.ownBlock ≠ some g) : OwnH w' base v L :=
  h.keep fun k hk => hb.block k (h.lt k hk).2 (fun e => hg (hk.trans e))
theorem OwnH.sh (h : OwnH w base v L) : Sh w v L := by
  refine ⟨h.1, ?_⟩
  rcases h.2.2 with ⟨rfl, h0⟩ | ⟨g, cap, cur, rfl, _, hh, hnc, _, hs, ht⟩
  · refine ⟨none, 0, by rw [h0], by omega, fun hn => absurd hn (by omega)⟩
  · refine ⟨some ⟨g, 0, none⟩, cap, rfl, hnc, fun _ => ⟨g, 0, rfl, fun j hj i u hu => ?_⟩⟩
    have hi : i < 32 := by
      have := (List.getElem?_eq_some_iff.1 hu).1
      rw [hcells_length, h.1 _ (List.getElem_mem hj)] at this
      exact this
    have := World.ownsRow.cells h.2 (g := g) rfl (j * 32 + i) u (by rw [hcs_get L h.1 j hj i hi]; exact hu)
    rw [add_plain] at this
    rw [show 0 + j * 32 + i = 0 + (j * 32 + i) by omega]
    exact this
/-- The row, as a block. -/
theorem OwnH.block {A : Option Addr} {n c : Nat} (h : OwnH w base (.slice A n c) L) (hn : 0 < L.length) : ∃ g, A = some ⟨g, 0, none⟩ ∧ n = L.length ∧ base ≤ g ∧ g < w.heap.size ∧ ∀ j, j < L.length → w.there g (j * 32) 32 := by
  rcases h.2.2 with ⟨e, h0⟩ | ⟨g, cap, cur, e, hg, hh, hnc, _, hs, ht⟩
  · omega
  · injection e with e1 e2 e3
    subst e1 e2
    have hB : Blk w g 39 cur := hh
    refine ⟨g, rfl, rfl, hg, hB.lt, fun j hj i hi => ?_⟩
    have := hB.there (j * 32 + i) (by rw [hs]; omega)
    rw [Nat.zero_add] at this
    exact this
theorem OwnH.set {A : Option Addr} {n c : Nat} {g : Nat} (h : OwnH w base (.slice A n c) L) (hA : A = some ⟨g, 0, none⟩) (j : Nat) (hj : j < L.length) {x : List UInt8} (hx : x.length = 32) : OwnH (w.setCells g (j * 32) (hcells x)) base (.slice A n c) (L.set j x) := by
  refine ⟨h.1.set j hx, by rw [hcs_length _ (h.1.set j hx)], ?_⟩
  rcases h.2.2 with ⟨e, h0⟩ | ⟨g', cap, cur, e, hg, hh, hnc, hcm, hs, ht⟩
  · omega
  · subst hA
    injection e with e1 e2 e3
    injection e1 with e1
    injection e1 with e1 _ _
    obtain rfl : g' = g := e1.symm
    subst e2 e3
    have hB : Blk w g' 39 cur := hh
    have hl : (hcells x).length = 32 := by rw [hcells_length, hx]
    obtain ⟨ds, h1, h2, h3⟩ := Blk.setAll (t := 39) (hcells x) (j * 32) w cur hB
    have hLs : (L.set j x).length = L.length := List.length_set
    refine Or.inr ⟨g', c, ds, by rw [hLs], hg, h1, by rw [hLs]; exact hnc, hcm, by rw [h2, hs], ?_⟩
    rw [hLs, hcs_set L h.1 j x hj hx]
    have hcl := hcs_length L h.1
    have hjj : L.length * 32 ≤ c * 32 := Nat.mul_le_mul_right _ hnc
    apply List.ext_getElem?
    intro i
    by_cases hi : i < L.length * 32
    · rw [List.getElem?_take_of_lt hi, Array.getElem?_toList, h3 i (by rw [hs]; omega), hl, List.append_assoc]
      by_cases c1 : i < j * 32
      · rw [if_neg (by omega), List.getElem?_append_left (by rw [List.length_take]; omega), List.getElem?_take_of_lt c1, ← ht, List.getElem?_take_of_lt hi, Array.getElem?_toList]
      · by_cases c2 : i < j * 32 + 32
        · rw [if_pos ⟨by omega, c2⟩, List.getElem?_append_right (by rw [List.length_take]; omega), List.length_take, Nat.min_eq_left (by omega), List.getElem?_append_left (by omega)]
        · rw [if_neg (by omega), List.getElem?_append_right (by rw [List.length_take]; omega), List.length_take, Nat.min_eq_left (by omega), List.getElem?_append_right (by omega), hl, List.getElem?_drop, ← ht, List.getElem?_take_of_lt (by omega), Array.getElem?_toList]
          congr 1; omega
    · rw [List.getElem?_eq_none (by rw [List.length_take]; omega), List.getElem?_eq_none (by simp only [List.length_append, List.length_take, List.length_drop]; omega)]
end

theorem info_hash : (Tryd.prog.info? 39).map (fun i => (i.zero, i.size, i.bytes)) = some (some (.agg (rowB (List.replicate 32 0))), 32, 32) := by kernel_rfl
section
variable {P : Program} (w : World)
/-- Hashes appended to a row of the call's own. -/
theorem run_append_hs (base : Nat) (t ty : TypeId) (i : TypeInfo) (ht : P.underlying t = some (.slice 39)) (hi : P.info? 39 = some i) (hz : i.zero = some (.agg (rowB (List.replicate 32 0))))
    (hsize : i.size = 32) (hby : i.bytes = 32) (v : Value) (l : List (List UInt8)) (hown : OwnH w base v l) (v2 : Value) (m : List (List UInt8)) (hm : Sh w v2 m) (hlen : l.length + m.length ≤ 1000000) (hbase : base ≤ w.heap.size) :
    ∃ v' w', (Builtin.append_ #[t, t] ty #[v, v2]).run P w = .ok v' w' ∧ OwnH w' base v' (l ++ m) ∧ Below base w w' := by
  have ham := hm.all
  obtain ⟨_, A, c, rfl, hc, ha⟩ := hm
  rcases A with _ | ad
  · have h0 : m = [] := by
      rcases Nat.eq_zero_or_pos m.length with h0 | h0
      · exact List.eq_nil_of_length_eq_zero h0
      · obtain ⟨b, o, h, _⟩ := ha h0
        cases h
    subst h0
    refine ⟨v, w, ?_, by rw [List.append_nil]; exact hown, Below.refl _ _⟩
    rcases hown.2.2 with ⟨rfl, h0⟩ | ⟨g, cap, cur, rfl, _, _, hnc, _⟩
    · simp [Builtin.append_, run_underlying ht, sizeOf, typeInfo, hi, Builtin.lenOf, Builtin.firstCells]
    · simp [Builtin.append_, run_underlying ht, sizeOf, typeInfo, hi, Builtin.lenOf, Builtin.firstCells, hnc, storeCells]
  · have hcells : ∀ j u, (hcs m)[j]? = some u → w.cell? (ad.add j) = some u := by
      intro j u hu
      have hj : j < m.length * 32 := by
        have := (List.getElem?_eq_some_iff.1 hu).1
        rw [hcs_length m ham] at this
        exact this
      obtain ⟨b, o, h, hx⟩ := ha (by omega)
      injection h with h
      subst h
      rw [add_plain]
      have hk : j / 32 < m.length := by omega
      have e : j = j / 32 * 32 + j % 32 := by omega
      rw [e, hcs_get m ham (j / 32) hk (j % 32) (by omega)] at hu
      have := hx (j / 32) hk (j % 32) u hu
      rw [Nat.add_assoc, ← e] at this
      exact this
    obtain ⟨v', w', hrun, h2, h3, h4, h5⟩ := run_append_own_at (P := P) w base t ty _ i _ 32 32 ht hi hz hsize hby (by simp [Value.cells, rowB]) (by decide) v l.length (hcs l) hown.2 ad m.length c (hcs m) (hcs_length m ham) hcells (hcs_one m)
      (by unfold maxLen; omega) (by omega) hbase
    refine ⟨v', w', hrun, ⟨hown.1.append ham, by rw [List.length_append, hcs_append]; exact h2⟩, ?_⟩
    exact (Below.refl base w).grown h3 hbase (fun k hk => (World.ownsRow.lt hown.2 k hk).1)

theorem wpList_append_hs {ops : Array Oper} {rest : List Oper} {o : Oper} {a : Act} {Q : Exit → Act → World → Prop} (hgd : o.guard = none) (s x : Operand) (t : TypeId)
    (ho : o.op = .call { callee := .builtin .append, args := #[s, x], argTypes := #[t, t] })
    (base : Nat) (i : TypeInfo) (ht : P.underlying t = some (.slice 39)) (hi : P.info? 39 = some i) (hz : i.zero = some (.agg (rowB (List.replicate 32 0))))
    (hsize : i.size = 32) (hby : i.bytes = 32) (v : Value) (l : List (List UInt8)) (hs : a.eval s = v) (hown : OwnH w base v l)
    (v2 : Value) (m : List (List UInt8)) (hx : a.eval x = v2) (hm : Sh w v2 m) (hlen : l.length + m.length ≤ 1000000) (hbase : base ≤ w.heap.size)
    (h : ∀ v' w', OwnH w' base v' (l ++ m) → Below base w w' → wpList P ops Q rest (a.put o.dst v') w') : wpList P ops Q (o :: rest) a w := by
  refine wpList_plain hgd fun K hK => ?_
  obtain ⟨v', w', hr, h2, h3⟩ := run_append_hs (P := P) w base t o.type i ht hi hz hsize hby v l hown v2 m hm hlen hbase
  unfold Oper.wp execOp
  simp only [ho, resolve, invoke, builtin, Sem.run_bind, Sem.run_pure, Result.andThen_ok, List.map_toArray, List.map_cons, List.map_nil, hs, hx, hr]
  exact hK _ _ (h v' w' h2 h3)
/-- Hashes copied over all of a slice. -/
theorem wpList_copy_hs {ops : Array Oper} {rest : List Oper} {o : Oper} {a : Act} {Q : Exit → Act → World → Prop} (hgd : o.guard = none) (d s : Operand) (t : TypeId)
    (ho : o.op = .call { callee := .builtin .copy, args := #[d, s], argTypes := #[t, t] }) (i : TypeInfo) (ht : P.underlying t = some (.slice 39)) (hi : P.info? 39 = some i) (hsize : i.size = 32)
    (g o' n c : Nat) (hd : a.eval d = .slice (some ⟨g, o', none⟩) n c) (v : Value) (L : List (List UInt8)) (hv : a.eval s = v) (hL : Sh w v L) (hn : L.length = n) (hpos : 0 < n) (hth : w.there g o' (n * 32))
    (h : wpList P ops Q rest (a.put o.dst (goInt n)) (w.setCells g o' (hcs L))) : wpList P ops Q (o :: rest) a w := by
  subst hn
  have ham := hL.all
  obtain ⟨_, A, cc, rfl, hcc, ha⟩ := hL
  obtain ⟨b, oo, rfl, hx⟩ := ha hpos
  have hcl := hcs_length L ham
  have hl := run_loadCells_list (P := P) w ⟨b, oo, none⟩ (hcs L) (by
    intro j u hu
    have hj : j < L.length * 32 := by
      have := (List.getElem?_eq_some_iff.1 hu).1
      rw [hcl] at this
      exact this
    rw [add_plain]
    have hk : j / 32 < L.length := by omega
    have e : j = j / 32 * 32 + j % 32 := by omega
    rw [e, hcs_get L ham (j / 32) hk (j % 32) (by omega)] at hu
    have := hx (j / 32) hk (j % 32) u hu
    rw [Nat.add_assoc, ← e] at this
    exact this)
  have hst := run_storeCells_cells (P := P) g o' (hcs L) 0 w (fun j hj => by simpa using (hth j (by omega)).1) (fun j hj => by simpa using (hth j (by omega)).2) (hcs_one L)
  rw [hcl] at hl
  refine wpList_plain hgd fun K hK => ?_
  have hrun : (Builtin.copy_ #[t, t] o.type #[.slice (some ⟨g, o', none⟩) L.length c, .slice (some ⟨b, oo, none⟩) L.length cc]).run P w = .ok (goInt L.length) (w.setCells g o' (hcs L)) := by
    simp [Builtin.copy_, run_underlying ht, Builtin.lenOf, Builtin.firstCells, sizeOf, typeInfo, hi, hsize, hl, hst]
  unfold Oper.wp
  simp [execOp, ho, resolve, invoke, builtin, hd, hv, hrun, Result.andThen]
  exact hK _ _ h
end

/-- Lists of lists: two, three. -/
theorem Sls.two (w : World) (e : TypeId) (v x : Value) (l m : List UInt8) (h : Sl w v l) (k : Sl w x m) : Sls (w.alloc (.cells #[v, x] e)) (.slice (some ⟨w.heap.size, 0, none⟩) 2 2) [l, m] := by
  refine ⟨_, _, rfl, Nat.le_refl _, fun _ => ⟨_, 0, rfl, fun j hj => ?_⟩⟩
  match j, hj with
  | 0, _ => exact ⟨v, (Blk.new w e #[v, x]).cell 0, h.alloc _⟩
  | 1, _ => exact ⟨x, (Blk.new w e #[v, x]).cell 1, k.alloc _⟩
theorem Sls.three (w : World) (e : TypeId) (v x y : Value) (l m n : List UInt8) (h : Sl w v l) (k : Sl w x m) (q : Sl w y n) : Sls (w.alloc (.cells #[v, x, y] e)) (.slice (some ⟨w.heap.size, 0, none⟩) 3 3) [l, m, n] := by
  refine ⟨_, _, rfl, Nat.le_refl _, fun _ => ⟨_, 0, rfl, fun j hj => ?_⟩⟩
  match j, hj with
  | 0, _ => exact ⟨v, (Blk.new w e #[v, x, y]).cell 0, h.alloc _⟩
  | 1, _ => exact ⟨x, (Blk.new w e #[v, x, y]).cell 1, k.alloc _⟩
  | 2, _ => exact ⟨y, (Blk.new w e #[v, x, y]).cell 2, q.alloc _⟩
/-- A range of bytes, as a slice. -/
theorem Sl.of_range {w : World} {b o : Nat} {l : List UInt8} (h : w.rangeAt b o (hcells l)) (n c : Nat) (hn : n = l.length) (hc : n ≤ c) : Sl w (.slice (some ⟨b, o, none⟩) n c) l := by
  subst hn
  refine ⟨_, c, rfl, hc, fun _ => ⟨b, o, rfl, fun j hj => h j _ ?_⟩⟩
  simp [hcells, List.getElem?_eq_getElem hj, bv]
/-- Two bytes in a new block. -/
theorem Sl.pair (w : World) (e : TypeId) (x y : Int) (c d : UInt8) (hx : x = (c.toNat : Int)) (hy : y = (d.toNat : Int)) : Sl (w.alloc (.cells #[.int .u8 x, .int .u8 y] e)) (.slice (some ⟨w.heap.size, 0, none⟩) 2 2) [c, d] := by
  subst hx hy
  refine ⟨_, 2, rfl, by simp, fun _ => ⟨_, 0, rfl, fun j hj => ?_⟩⟩
  match j, hj with
  | 0, _ => exact (Blk.new w e _).cell 0
  | 1, _ => exact (Blk.new w e _).cell 1
end Go.Proofs.YtdbhffkfkklehaaDoor

/-
  A tree in memory, what is kept of it; what none, Leaf and sum answer and leave.
-/
namespace Go.Proofs.YtdbhffkfkklehaaDoor
open Go.RowKit
set_option linter.unusedVariables false
set_option linter.unusedSimpArgs false

def nodesL (H : Nat → List UInt8) : List (List UInt8) := (List.range 128).map H
theorem nodesL_length (H : Nat → List UInt8) : (nodesL H).length = 128 := by simp [nodesL]
theorem nodesL_get (H : Nat → List UInt8) (i : Nat) (h : i < (nodesL H).length) : (nodesL H)[i] = H i := by simp [nodesL]
theorem nodesL_upd (H : Nat → List UInt8) (n : Nat) (h : List UInt8) (hn : n < 128) : nodesL (upd H n h) = (nodesL H).set n h := by
  apply List.ext_getElem (by rw [List.length_set, nodesL_length, nodesL_length])
  intro i h1 h2
  rw [nodesL_get, List.getElem_set]
  by_cases e : n = i
  · subst e; rw [if_pos rfl, upd_at]
  · rw [if_neg e, nodesL_get, upd_far _ _ _ _ (by omega)]
/-- Each node's hash has 32 bytes. -/
def Len (H : Nat → List UInt8) : Prop := ∀ n, n < 128 → (H n).length = 32
theorem Len.all {H : Nat → List UInt8} (h : Len H) : All32 (nodesL H) := by
  intro x hx
  obtain ⟨n, hn, rfl⟩ := List.mem_map.1 hx
  exact h n (List.mem_range.1 hn)
theorem Len.leaves {H : Nat → List UInt8} (h : Len H) : All32 (leavesOf H) := by
  intro x hx
  obtain ⟨n, hn, rfl⟩ := List.mem_map.1 hx
  have := List.mem_range.1 hn
  exact h _ (by omega)
theorem Len.upd {H : Nat → List UInt8} (h : Len H) (n : Nat) {x : List UInt8} (hx : x.length = 32) : Len (upd H n x) := by
  intro i hi
  unfold Go.Proofs.YtdbhffkfkklehaaDoor.upd
  split
  · exact hx
  · exact h i hi
theorem Len.anew {H : Nat → List UInt8} (h : Len H) (n : Nat) : Len (anew H n) := h.upd n (nodeN_length _ _)

def treeRow (m : Bool) (H : Nat → List UInt8) : Array Value := (Value.bool m :: hcs (nodesL H)).toArray
theorem treeRow_size (m : Bool) (H : Nat → List UInt8) (h : Len H) : (treeRow m H).size = 4097 := by simp [treeRow, hcs_length _ h.all, nodesL_length]
theorem treeRow_get (m : Bool) (H : Nat → List UInt8) (h : Len H) (n j : Nat) (hn : n < 128) (hj : j < 32) : (treeRow m H)[1 + n * 32 + j]? = (hcells (H n))[j]? := by
  unfold treeRow
  rw [List.getElem?_toArray, show 1 + n * 32 + j = (n * 32 + j) + 1 by omega, List.getElem?_cons_succ, hcs_get _ h.all n (by rw [nodesL_length]; exact hn) j hj, nodesL_get]
theorem treeRow_zero (m : Bool) (H : Nat → List UInt8) : (treeRow m H)[0]? = some (.bool m) := rfl

/-- At block g stands a tree with these nodes. -/
structure Tr (w : World) (g : Nat) (H : Nat → List UInt8) : Prop where
  len : Len H
  row : Blk w g 43 (treeRow true H)
section
variable {w w' : World} {g : Nat} {H : Nat → List UInt8}
theorem Tr.lt (h : Tr w g H) : g < w.heap.size := h.row.lt
theorem Tr.below {B : Nat} (h : Tr w g H) (hb : Below B w w') (hg : g < B) : Tr w' g H := ⟨h.len, h.row.below hb hg⟩
theorem Tr.past (h : Tr w g H) (hb : Below w.heap.size w w') : Tr w' g H := h.below hb h.lt
theorem Tr.grown {k : Nat} (h : Tr w g H) (hb : w.grownBy w' (some k)) (hk : g ≠ k) : Tr w' g H := ⟨h.len, h.row.grown hb (fun e => hk (by injection e))⟩
theorem Tr.alloc (h : Tr w g H) (o : Obj) : Tr (w.alloc o) g H := ⟨h.len, h.row.alloc o⟩
theorem Tr.drew (h : Tr w g H) : Tr w.drew g H := ⟨h.len, h.row.drew⟩
theorem Tr.made (h : Tr w g H) : w.cell? ⟨g, 0, none⟩ = some (.bool true) := by rw [h.row.cell]; rfl
theorem Tr.range (h : Tr w g H) (n : Nat) (hn : n < 128) : w.rangeAt g (1 + n * 32) (hcells (H n)) := by
  intro j v hv
  have hj : j < 32 := by
    have := (List.getElem?_eq_some_iff.1 hv).1
    rwa [hcells_length, h.len n hn] at this
  rw [h.row.cell, treeRow_get true H h.len n j hn hj, hv]
theorem Tr.there (h : Tr w g H) (o k : Nat) (hk : o + k ≤ 4097) : w.there g o k := fun j hj => by
  have := h.row.there (o + j) (by rw [treeRow_size _ _ h.len]; omega)
  rw [Nat.zero_add] at this
  exact this
theorem Tr.set (h : Tr w g H) (n : Nat) (hn : n < 128) {x : List UInt8} (hx : x.length = 32) : Tr (w.setCells g (1 + n * 32) (hcells x)) g (upd H n x) := by
  refine ⟨h.len.upd n hx, ?_⟩
  have hl : (hcells x).length = 32 := by rw [hcells_length, hx]
  obtain ⟨ds, h1, h2, h3⟩ := Blk.setAll (t := 43) (hcells x) (1 + n * 32) w _ h.row
  have e : ds = treeRow true (upd H n x) := by
    apply Array.ext_getElem?
    intro i
    rw [treeRow_size _ _ h.len] at h2 h3
    by_cases hi : i < 4097
    · rw [h3 i hi, hl]
      rcases Nat.eq_zero_or_pos i with rfl | hp
      · rw [if_neg (by omega)]; rfl
      · have hq : (i - 1) / 32 < 128 := by omega
        have e : i = 1 + (i - 1) / 32 * 32 + (i - 1) % 32 := by omega
        generalize (i - 1) / 32 = q at hq e
        have hr : (i - 1) % 32 < 32 := Nat.mod_lt _ (by decide)
        generalize (i - 1) % 32 = r at hr e
        subst e
        rw [treeRow_get _ _ (h.len.upd n hx) q r hq hr, treeRow_get _ _ h.len q r hq hr]
        by_cases c : q = n
        · subst c
          rw [if_pos (by omega), upd_at, show 1 + q * 32 + r - (1 + q * 32) = r by omega]
        · rw [if_neg (by omega), upd_far _ _ _ _ c]
    · rw [Array.getElem?_eq_none (by omega), Array.getElem?_eq_none (by rw [treeRow_size _ _ (h.len.upd n hx)]; omega)]
  rw [← e]; exact h1
theorem Tr.leaves (h : Tr w g H) : Sh w (.slice (some ⟨g, 2049, none⟩) 64 64) (leavesOf H) := by
  refine ⟨h.len.leaves, some ⟨g, 2049, none⟩, 64, by rw [leavesOf_length], by rw [leavesOf_length]; omega, fun _ => ⟨g, 2049, rfl, fun j hj => ?_⟩⟩
  rw [leavesOf_length] at hj
  rw [leavesOf_get, show 2049 + j * 32 = 1 + (64 + j) * 32 by omega]
  exact h.range (64 + j) (by omega)
theorem Tr.node (h : Tr w g H) (n : Nat) (hn : n < 128) (c : Nat) (hc : 32 ≤ c) : Sl w (.slice (some ⟨g, 1 + n * 32, none⟩) 32 c) (H n) := Sl.of_range (h.range n hn) 32 c (h.len n hn).symm hc
theorem Tr.free (h : Tr w g H) (hg : Gl w) : 1 < g := by
  obtain ⟨⟨t, f, h0⟩, ⟨t1, f1, h1⟩⟩ := hg
  have hr : w.heap[g]? = some (.cells (treeRow true H) 43 (0, 0)) := h.row
  have hs := treeRow_size true H h.len
  rcases Nat.lt_or_ge 1 g with h' | h'
  · exact h'
  · exfalso
    rcases Nat.le_one_iff_eq_zero_or_eq_one.1 h' with rfl | rfl
    · rw [h0] at hr
      injection hr with hr
      injection hr with hr _ _
      rw [← hr] at hs
      exact absurd hs (by decide)
    · rw [h1] at hr
      injection hr with hr
      injection hr with hr _ _
      rw [← hr] at hs
      exact absurd hs (by decide)
end

/-- A pointer to no tree: nil, or one that is not made. -/
def NoTr (w : World) (p : Value) : Prop := p = .pointer none ∨ ∃ g, p = .pointer (some ⟨g, 0, none⟩) ∧ w.cell? ⟨g, 0, none⟩ = some (.bool false)
theorem NoTr.below {w w' : World} {p : Value} (h : NoTr w p) (hb : Below w.heap.size w w') : NoTr w' p := by
  rcases h with h | ⟨g, h, hc⟩
  · exact .inl h
  · exact .inr ⟨g, h, (hb.cell (World.block_lt_of_cell? w _ hc)).trans hc⟩

theorem none_tree {H : Nat → List UInt8} {g : Nat} (w : World) (h : Tr w g H) : Calls Tryd.prog 29 #[.pointer (some ⟨g, 0, none⟩)] w fun e w' => e = .returned (.bool false) ∧ w = w' := by
  have hm := h.made
  go_enter Tryd.func29, Tryd.ntmps29
  go_wp2
  go_ret
  exact ⟨rfl, rfl⟩
theorem none_no (w : World) (p : Value) (h : NoTr w p) : Calls Tryd.prog 29 #[p] w fun e w' => e = .returned (.bool true) ∧ w = w' := by
  rcases h with rfl | ⟨g, rfl, hm⟩
  · go_enter Tryd.func29, Tryd.ntmps29
    go_wp2
    go_ret
    exact ⟨rfl, rfl⟩
  · go_enter Tryd.func29, Tryd.ntmps29
    go_wp2
    go_ret
    exact ⟨rfl, rfl⟩
theorem num_any (i : Int) (w : World) : Calls Tryd.prog 17 #[.int .i64 i] w fun e w' => e = .returned (.int .i64 i) ∧ w = w' := by
  go_enter Tryd.func17, Tryd.ntmps17
  go_wp2
  go_ret
  exact ⟨rfl, rfl⟩
end Go.Proofs.YtdbhffkfkklehaaDoor

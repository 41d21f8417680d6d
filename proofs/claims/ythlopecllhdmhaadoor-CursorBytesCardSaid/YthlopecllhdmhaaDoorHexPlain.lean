/-
  Texts of bytes, and bytes of texts: what is no walk of the program's own functions; strings.IndexByte over the digits.
-/
import Derived.Test.YthlopecllhdmhaaDoorShaKnown
import Derived.Test.YthlopecllhdmhaaDoorHeldA
import Derived.Lib.Bytealg
import Derived.Laws.IdiomStrings
import Derived.WalkMore
import Derived.Laws.BitsAllLaws
import Derived.Deep.LoopGhost
namespace Go.Proofs.YthlopecllhdmhaaDoor
open Go.RowKit
set_option linter.unusedVariables false

section
variable {P : Program} (w : World)
theorem run_append_bytes2 (base : Nat) (t ty e : TypeId) (i : TypeInfo) (ht : P.underlying t = some (.slice e)) (hi : P.info? e = some i) (hz : i.zero = some (.int .u8 0))
    (hsize : i.size = 1) (hby : i.bytes = 1) (v : Value) (l : List UInt8) (hown : Own w base e v l)
    (v2 : Value) (m : List UInt8) (hm : Sl w v2 m) (hlen : l.length + m.length ≤ 1000000000) (hbase : base ≤ w.heap.size) :
    ∃ v' w', (Builtin.append_ #[t, t] ty #[v, v2]).run P w = .ok v' w' ∧ Own w' base e v' (l ++ m) ∧ w.grownBy w' v.ownBlock := by
  obtain ⟨A, c, rfl, hc, ha⟩ := hm
  rcases A with _ | ad
  · have h0 : m = [] := by
      rcases Nat.eq_zero_or_pos m.length with h0 | h0
      · exact List.eq_nil_of_length_eq_zero h0
      · obtain ⟨b, o, h, _⟩ := ha h0
        cases h
    subst h0
    exact ⟨v, w, run_append_of_nil w base t ty e i 1 ht hi v _ _ hown c, by rw [List.append_nil]; exact hown, World.grownBy.refl w _⟩
  · have hcells : ∀ j u, (m.map bv)[j]? = some u → w.cell? (ad.add j) = some u := by
      intro j u hu
      have hj : j < m.length := by
        have := (List.getElem?_eq_some_iff.1 hu).1
        simpa using this
      obtain ⟨b, o, h, hx⟩ := ha (by omega)
      injection h with h
      subst h
      rw [add_plain, hx j hj, ← hu]
      simp [List.getElem?_eq_getElem hj, bv]
    obtain ⟨v', w', hrun, h2, h3, _, _⟩ := run_append_own_at (P := P) w base t ty e i (.int .u8 0) 1 1 ht hi hz hsize hby rfl (by decide) v l.length (l.map bv) hown ad m.length c (m.map bv) (by simp) hcells
      (by intro u hu; obtain ⟨c, _, rfl⟩ := List.mem_map.1 hu; rfl) (by unfold maxLen; omega) (by omega) hbase
    exact ⟨v', w', hrun, by unfold Own; rw [List.length_append, List.map_append]; exact h2, h3⟩
theorem step_append_bytes2 {ops : Array Oper} {o : Oper} {a : Act} {K : Act → World → Prop} {Q : Exit → Act → World → Prop} {E : Prop} (hgd : o.guard = none) (s x : Operand) (t : TypeId)
    (ho : o.op = .call { callee := .builtin .append, args := #[s, x], argTypes := #[t, t] })
    (base : Nat) (e : TypeId) (i : TypeInfo) (ht : P.underlying t = some (.slice e)) (hi : P.info? e = some i) (hz : i.zero = some (.int .u8 0))
    (hsize : i.size = 1) (hby : i.bytes = 1) (v : Value) (l : List UInt8) (hs : a.eval s = v) (hown : Own w base e v l)
    (v2 : Value) (m : List UInt8) (hx : a.eval x = v2) (hm : Sl w v2 m) (hlen : l.length + m.length ≤ 1000000000) (hbase : base ≤ w.heap.size)
    (h : ∀ v' w', Own w' base e v' (l ++ m) → w.grownBy w' v.ownBlock → K (a.put o.dst v') w') : if Region.wanted o (yielded ops a.tmps) = true then Oper.wp P o a w K Q else E := by
  have hw : Region.wanted o (yielded ops a.tmps) = true := by simp [Region.wanted, hgd]
  rw [if_pos hw]
  obtain ⟨v', w', hr, h2, h3⟩ := run_append_bytes2 (P := P) w base t o.type e i ht hi hz hsize hby v l hown v2 m hm hlen hbase
  unfold Oper.wp execOp
  simp only [ho, resolve, invoke, builtin, Sem.run_bind, Sem.run_pure, Result.andThen_ok, List.map_toArray, List.map_cons, List.map_nil, hs, hx, hr]
  exact h v' w' h2 h3
end

/-- A row of the call's own lies below the heap's end. -/
theorem Own.lt {w : World} {base : Nat} {e : TypeId} {v : Value} {l : List UInt8} (h : Own w base e v l) : ∀ k, v.ownBlock = some k → base ≤ k ∧ k < w.heap.size := World.ownsRow.lt h
/-- A row from 'base' on is left by what turns a block below 'base' alone. -/
theorem Own.grown {w w' : World} {base : Nat} {e : TypeId} {v : Value} {l : List UInt8} {row : Option Nat} (h : Own w base e v l) (hgr : w.grownBy w' row) (hne : ∀ k, row = some k → k < base) : Own w' base e v l := by
  refine ⟨h.1, ?_⟩
  rcases h.2 with h2 | ⟨g, cap, cur, hv, hg, hh, r⟩
  · exact Or.inl h2
  · have hlt : g < w.heap.size := by
      rcases Nat.lt_or_ge g w.heap.size with hlt | hge
      · exact hlt
      · rw [Array.getElem?_eq_none hge] at hh; cases hh
    exact Or.inr ⟨g, cap, cur, hv, hg, (hgr.block g hlt (fun e => by have := hne g e.symm; omega)).trans hh, r⟩


/-- The sixteen digits. -/
def digits : List UInt8 := [48, 49, 50, 51, 52, 53, 54, 55, 56, 57, 97, 98, 99, 100, 101, 102]
def dig (i : Nat) : UInt8 := digits.getD i 0
/-- A text of bytes. -/
def hexB (l : List UInt8) : List UInt8 := l.flatMap (fun c => [dig (c.toNat / 16), dig (c.toNat % 16)])
theorem hexB_length (l : List UInt8) : (hexB l).length = 2 * l.length := by
  induction l with
  | nil => rfl
  | cons c l ih => simp only [hexB, List.flatMap_cons, List.length_append, List.length_cons] at *; simp only [List.length_nil]; omega
theorem sixteen {i : Nat} (h : i < 16) : i = 0 ∨ i = 1 ∨ i = 2 ∨ i = 3 ∨ i = 4 ∨ i = 5 ∨ i = 6 ∨ i = 7 ∨ i = 8 ∨ i = 9 ∨ i = 10 ∨ i = 11 ∨ i = 12 ∨ i = 13 ∨ i = 14 ∨ i = 15 := by omega
/-- A new block of two bytes, as a slice. -/
theorem Sl.two (w : World) (e : TypeId) (x y : UInt8) : Sl (w.alloc (.cells #[.int .u8 (x.toNat : Int), .int .u8 (y.toNat : Int)] e)) (.slice (some ⟨w.heap.size, 0, none⟩) 2 2) [x, y] :=
  Sl.of_mark w e _ (0, 0) [x, y] 2 2 rfl (Nat.le_refl _) rfl
theorem Own.made (w : World) (e : TypeId) (n : Nat) (hn : n ≤ 1000000) : Own (w.alloc (.cells (madeCells #[.int .u8 0] n) e)) w.heap.size e (.slice (some ⟨w.heap.size, 0, none⟩) 0 n) [] :=
  World.ownsRow_made w _ n (Nat.le_refl _) (by unfold maxLen; omega) (by simp [madeCells])

/-- A digit's number. -/
def hv (c : UInt8) : Option Nat := if 48 ≤ c.toNat ∧ c.toNat ≤ 57 then some (c.toNat - 48) else if 97 ≤ c.toNat ∧ c.toNat ≤ 102 then some (c.toNat - 87) else none
/-- A pair of digits, as a byte. -/
def pr (l : List UInt8) (i : Nat) : Option UInt8 :=
  match hv (l.getD (2 * i) 0), hv (l.getD (2 * i + 1) 0) with
  | some x, some y => some (UInt8.ofNat (16 * x + y))
  | _, _ => none
/-- The bytes that the first pairs of a text say. -/
def unhexTo (l : List UInt8) : Nat → Option (List UInt8)
  | 0 => some []
  | i + 1 => match unhexTo l i, pr l i with
    | some m, some c => some (m ++ [c])
    | _, _ => none
/-- The bytes whose text it is. -/
def unhexB (l : List UInt8) : Option (List UInt8) := if l.length % 2 = 0 then unhexTo l (l.length / 2) else none
theorem unhexTo_length (l : List UInt8) : ∀ (i : Nat) (m : List UInt8), unhexTo l i = some m → m.length = i
  | 0, m, h => by simp [unhexTo] at h; simp [← h]
  | i + 1, m, h => by
    unfold unhexTo at h
    split at h
    · rename_i m' c h1 h2
      injection h with h
      rw [← h, List.length_append, unhexTo_length l i m' h1]; rfl
    · cases h
end Go.Proofs.YthlopecllhdmhaaDoor

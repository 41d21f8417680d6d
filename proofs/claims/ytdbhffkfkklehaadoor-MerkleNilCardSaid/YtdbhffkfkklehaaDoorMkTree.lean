/-
  A tree in memory, what is kept of it; what none, Leaf and sum answer and leave.
-/
import Derived.Test.YtdbhffkfkklehaaDoorMkMem
import Derived.Test.YtdbhffkfkklehaaDoorHeldA
namespace Go.Proofs.YtdbhffkfkklehaaDoor
open Go.RowKit
set_option linter.unusedVariables false
set_option linter.unusedSimpArgs false

def nodesL (H : Nat → List UInt8) : List (List UInt8) := (List.range 128).map H
theorem nodesL_length (H : Nat → List UInt8) : (nodesL H).length = 128 := by simp [nodesL]
theorem nodesL_get (H : Nat → List UInt8) (i : Nat) (h : i < (nodesL H).length) : (nodesL H)[i] = H i := by simp [nodesL]
theorem nodesL_upd (H : Nat → List UInt8) (n : Nat) (h : List UInt8) (hn : n < 128) : nodesL (upd H n h) = (nodesL H).set n h := by
  apply List.ext_getElem (by rw [List.length_set, nodesL_length, nodesL_length])
  intro i h1 h2
  rw [nodesL_get, List.getElem_set]
  by_cases e : n = i
  · subst e; rw [if_pos rfl, upd_at]
  · rw [if_neg e, nodesL_get, upd_far _ _ _ _ (by omega)]
/-- Each node's hash has 32 bytes. -/
def Len (H : Nat → List UInt8) : Prop := ∀ n, n < 128 → (H n).length = 32
theorem Len.all {H : Nat → List UInt8} (h : Len H) : All32 (nodesL H) := by
  intro x hx
  obtain ⟨n, hn, rfl⟩ := List.mem_map.1 hx
  exact h n (List.mem_range.1 hn)
theorem Len.leaves {H : Nat → List UInt8} (h : Len H) : All32 (leavesOf H) := by
  intro x hx
  obtain ⟨n, hn, rfl⟩ := List.mem_map.1 hx
  have := List.mem_range.1 hn
  exact h _ (by omega)
theorem Len.upd {H : Nat → List UInt8} (h : Len H) (n : Nat) {x : List UInt8} (hx : x.length = 32) : Len (upd H n x) := by
  intro i hi
  unfold Go.Proofs.YtdbhffkfkklehaaDoor.upd
  split
  · exact hx
  · exact h i hi
theorem Len.anew {H : Nat → List UInt8} (h : Len H) (n : Nat) : Len (anew H n) := h.upd n (nodeN_length _ _)

def treeRow (m : Bool) (H : Nat → List UInt8) : Array Value := (Value.bool m :: hcs (nodesL H)).toArray
theorem treeRow_size (m : Bool) (H : Nat → List UInt8) (h : Len H) : (treeRow m H).size = 4097 := by simp [treeRow, hcs_length _ h.all, nodesL_length]
theorem treeRow_get (m : Bool) (H : Nat → List UInt8) (h : Len H) (n j : Nat) (hn : n < 128) (hj : j < 32) : (treeRow m H)[1 + n * 32 + j]? = (hcells (H n))[j]? := by
  unfold treeRow
  rw [List.getElem?_toArray, show 1 + n * 32 + j = (n * 32 + j) + 1 by omega, List.getElem?_cons_succ, hcs_get _ h.all n (by rw [nodesL_length]; exact hn) j hj, nodesL_get]
theorem treeRow_zero (m : Bool) (H : Nat → List UInt8) : (treeRow m H)[0]? = some (.bool m) := rfl

/-- At block g stands a tree with these nodes. -/
structure Tr (w : World) (g : Nat) (H : Nat → List UInt8) : Prop where
  len : Len H
  row : Blk w g 43 (treeRow true H)
section
variable {w w' : World} {g : Nat} {H : Nat → List UInt8}
theorem Tr.lt (h : Tr w g H) : g < w.heap.size := h.row.lt
theorem Tr.below {B : Nat} (h : Tr w g H) (hb : Below B w w') (hg : g < B) : Tr w' g H := ⟨h.len, h.row.below hb hg⟩
theorem Tr.past (h : Tr w g H) (hb : Below w.heap.size w w') : Tr w' g H := h.below hb h.lt
theorem Tr.grown {k : Nat} (h : Tr w g H) (hb : w.grownBy w' (some k)) (hk : g ≠ k) : Tr w' g H := ⟨h.len, h.row.grown hb (fun e => hk (by injection e))⟩
theorem Tr.alloc (h : Tr w g H) (o : Obj) : Tr (w.alloc o) g H := ⟨h.len, h.row.alloc o⟩
theorem Tr.drew (h : Tr w g H) : Tr w.drew g H := ⟨h.len, h.row.drew⟩
theorem Tr.made (h : Tr w g H) : w.cell? ⟨g, 0, none⟩ = some (.bool true) := by rw [h.row.cell]; rfl
theorem Tr.range (h : Tr w g H) (n : Nat) (hn : n < 128) : w.rangeAt g (1 + n * 32) (hcells (H n)) := by
  intro j v hv
  have hj : j < 32 := by
    have := (List.getElem?_eq_some_iff.1 hv).1
    rwa [hcells_length, h.len n hn] at this
  rw [h.row.cell, treeRow_get true H h.len n j hn hj, hv]
theorem Tr.there (h : Tr w g H) (o k : Nat) (hk : o + k ≤ 4097) : w.there g o k := fun j hj => by
  have := h.row.there (o + j) (by rw [treeRow_size _ _ h.len]; omega)
  rw [Nat.zero_add] at this
  exact this
theorem Tr.set (h : Tr w g H) (n : Nat) (hn : n < 128) {x : List UInt8} (hx : x.length = 32) : Tr (w.setCells g (1 + n * 32) (hcells x)) g (upd H n x) := by
  refine ⟨h.len.upd n hx, ?_⟩
  have hl : (hcells x).length = 32 := by rw [hcells_length, hx]
  obtain ⟨ds, h1, h2, h3⟩ := Blk.setAll (t := 43) (hcells x) (1 + n * 32) w _ h.row
  have e : ds = treeRow true (upd H n x) := by
    apply Array.ext_getElem?
    intro i
    rw [treeRow_size _ _ h.len] at h2 h3
    by_cases hi : i < 4097
    · rw [h3 i hi, hl]
      rcases Nat.eq_zero_or_pos i with rfl | hp
      · rw [if_neg (by omega)]; rfl
      · have hq : (i - 1) / 32 < 128 := by omega
        have e : i = 1 + (i - 1) / 32 * 32 + (i - 1) % 32 := by omega
        generalize (i - 1) / 32 = q at hq e
        have hr : (i - 1) % 32 < 32 := Nat.mod_lt _ (by decide)
        generalize (i - 1) % 32 = r at hr e
        subst e
        rw [treeRow_get _ _ (h.len.upd n hx) q r hq hr, treeRow_get _ _ h.len q r hq hr]
        by_cases c : q = n
        · subst c
          rw [if_pos (by omega), upd_at, show 1 + q * 32 + r - (1 + q * 32) = r by omega]
        · rw [if_neg (by omega), upd_far _ _ _ _ c]
    · rw [Array.getElem?_eq_none (by omega), Array.getElem?_eq_none (by rw [treeRow_size _ _ (h.len.upd n hx)]; omega)]
  rw [← e]; exact h1
theorem Tr.leaves (h : Tr w g H) : Sh w (.slice (some ⟨g, 2049, none⟩) 64 64) (leavesOf H) := by
  refine ⟨h.len.leaves, some ⟨g, 2049, none⟩, 64, by rw [leavesOf_length], by rw [leavesOf_length]; omega, fun _ => ⟨g, 2049, rfl, fun j hj => ?_⟩⟩
  rw [leavesOf_length] at hj
  rw [leavesOf_get, show 2049 + j * 32 = 1 + (64 + j) * 32 by omega]
  exact h.range (64 + j) (by omega)
theorem Tr.node (h : Tr w g H) (n : Nat) (hn : n < 128) (c : Nat) (hc : 32 ≤ c) : Sl w (.slice (some ⟨g, 1 + n * 32, none⟩) 32 c) (H n) := Sl.of_range (h.range n hn) 32 c (h.len n hn).symm hc
theorem Tr.free (h : Tr w g H) (hg : Gl w) : 1 < g := by
  obtain ⟨⟨t, f, h0⟩, ⟨t1, f1, h1⟩⟩ := hg
  have hr : w.heap[g]? = some (.cells (treeRow true H) 43 (0, 0)) := h.row
  have hs := treeRow_size true H h.len
  rcases Nat.lt_or_ge 1 g with h' | h'
  · exact h'
  · exfalso
    rcases Nat.le_one_iff_eq_zero_or_eq_one.1 h' with rfl | rfl
    · rw [h0] at hr
      injection hr with hr
      injection hr with hr _ _
      rw [← hr] at hs
      exact absurd hs (by decide)
    · rw [h1] at hr
      injection hr with hr
      injection hr with hr _ _
      rw [← hr] at hs
      exact absurd hs (by decide)
end

/-- A pointer to no tree: nil, or one that is not made. -/
def NoTr (w : World) (p : Value) : Prop := p = .pointer none ∨ ∃ g, p = .pointer (some ⟨g, 0, none⟩) ∧ w.cell? ⟨g, 0, none⟩ = some (.bool false)
theorem NoTr.below {w w' : World} {p : Value} (h : NoTr w p) (hb : Below w.heap.size w w') : NoTr w' p := by
  rcases h with h | ⟨g, h, hc⟩
  · exact .inl h
  · exact .inr ⟨g, h, (hb.cell (World.block_lt_of_cell? w _ hc)).trans hc⟩

theorem none_tree {H : Nat → List UInt8} {g : Nat} (w : World) (h : Tr w g H) : Calls Tryd.prog 29 #[.pointer (some ⟨g, 0, none⟩)] w fun e w' => e = .returned (.bool false) ∧ w = w' := by
  have hm := h.made
  go_enter Tryd.func29, Tryd.ntmps29
  go_wp2
  go_ret
  exact ⟨rfl, rfl⟩
theorem none_no (w : World) (p : Value) (h : NoTr w p) : Calls Tryd.prog 29 #[p] w fun e w' => e = .returned (.bool true) ∧ w = w' := by
  rcases h with rfl | ⟨g, rfl, hm⟩
  · go_enter Tryd.func29, Tryd.ntmps29
    go_wp2
    go_ret
    exact ⟨rfl, rfl⟩
  · go_enter Tryd.func29, Tryd.ntmps29
    go_wp2
    go_ret
    exact ⟨rfl, rfl⟩
theorem num_any (i : Int) (w : World) : Calls Tryd.prog 17 #[.int .i64 i] w fun e w' => e = .returned (.int .i64 i) ∧ w = w' := by
  go_enter Tryd.func17, Tryd.ntmps17
  go_wp2
  go_ret
  exact ⟨rfl, rfl⟩
end Go.Proofs.YtdbhffkfkklehaaDoor

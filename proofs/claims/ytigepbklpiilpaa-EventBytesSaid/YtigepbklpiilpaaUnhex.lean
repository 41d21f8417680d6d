/-
  A text's bytes; the walks of strings.IndexByte over the digits, and of wire.Unhex.
-/
import Derived.Test.YtigepbklpiilpaaHex
import Derived.Lib.Bytealg
import Derived.Laws.IdiomStrings
import Derived.WalkMore
import Derived.Laws.BitsAllLaws
import Derived.Deep.LoopGhost
namespace Go.Proofs.Ytigepbklpiilpaa
open Go.RowKit
set_option linter.unusedVariables false

/-- A digit's number. -/
def hv (c : UInt8) : Option Nat := if 48 ≤ c.toNat ∧ c.toNat ≤ 57 then some (c.toNat - 48) else if 97 ≤ c.toNat ∧ c.toNat ≤ 102 then some (c.toNat - 87) else none
theorem hv_lt {c : UInt8} {x : Nat} (h : hv c = some x) : x < 16 := by
  unfold hv at h
  split at h
  · injection h; omega
  · split at h
    · injection h; omega
    · cases h
theorem index_digits (c : UInt8) : Lib.indexByte digits c = match hv c with | some x => (x : Int) | none => -1 := by
  have h : ∀ n : Fin 256, Lib.indexByte digits (UInt8.ofNat n.val) = match hv (UInt8.ofNat n.val) with | some x => (x : Int) | none => -1 := by decide +kernel
  have := h ⟨c.toNat, c.toNat_lt⟩
  simpa using this

/-- A pair of digits, as a byte. -/
def pr (l : List UInt8) (i : Nat) : Option UInt8 :=
  match hv (l.getD (2 * i) 0), hv (l.getD (2 * i + 1) 0) with
  | some x, some y => some (UInt8.ofNat (16 * x + y))
  | _, _ => none
/-- The bytes that the first pairs of a text say. -/
def unhexTo (l : List UInt8) : Nat → Option (List UInt8)
  | 0 => some []
  | i + 1 => match unhexTo l i, pr l i with
    | some m, some c => some (m ++ [c])
    | _, _ => none
/-- The bytes whose text it is. -/
def unhexB (l : List UInt8) : Option (List UInt8) := if l.length % 2 = 0 then unhexTo l (l.length / 2) else none
theorem unhexTo_length (l : List UInt8) : ∀ (i : Nat) (m : List UInt8), unhexTo l i = some m → m.length = i
  | 0, m, h => by simp [unhexTo] at h; simp [← h]
  | i + 1, m, h => by
    unfold unhexTo at h
    split at h
    · rename_i m' c h1 h2
      injection h with h
      rw [← h, List.length_append, unhexTo_length l i m' h1]; rfl
    · cases h
theorem unhexTo_none (l : List UInt8) (i : Nat) (h : unhexTo l i = none) : ∀ j, i ≤ j → unhexTo l j = none
  | 0, hj => by obtain rfl : i = 0 := by omega
                exact h
  | j + 1, hj => by
    by_cases e : i = j + 1
    · subst e; exact h
    · unfold unhexTo
      rw [unhexTo_none l i h j (by omega)]
theorem unhexTo_pr_none (l : List UInt8) (i : Nat) (h : pr l i = none) (j : Nat) (hj : i < j) : unhexTo l j = none := by
  refine unhexTo_none l (i + 1) ?_ j hj
  unfold unhexTo
  rw [h]
  cases unhexTo l i <;> rfl

/-- A pair's number behind so many of its digits. -/
def cj (l : List UInt8) (i : Nat) : Nat → Option Nat
  | 0 => some 0
  | 1 => hv (l.getD (2 * i) 0)
  | _ => match hv (l.getD (2 * i) 0), hv (l.getD (2 * i + 1) 0) with
    | some x, some y => some (16 * x + y)
    | _, _ => none
theorem cj_step (l : List UInt8) (i j x y : Nat) (hj : j < 2) (hx : cj l i j = some x) (hy : hv (l.getD (2 * i + j) 0) = some y) : cj l i (j + 1) = some (16 * x + y) ∧ x < 16 ∧ y < 16 := by
  match j, hj with
  | 0, _ =>
    simp only [cj] at hx ⊢
    injection hx with hx
    subst hx
    exact ⟨by simpa using hy, by decide, hv_lt hy⟩
  | 1, _ =>
    simp only [cj] at hx ⊢
    rw [hx, hy]
    exact ⟨rfl, hv_lt hx, hv_lt hy⟩
theorem cj_none (l : List UInt8) (i j : Nat) (hj : j < 2) (hy : hv (l.getD (2 * i + j) 0) = none) : pr l i = none := by
  unfold pr
  match j, hj with
  | 0, _ => rw [Nat.add_zero] at hy; rw [hy]
  | 1, _ => rw [hy]; cases hv (l.getD (2 * i) 0) <;> rfl
theorem cj_pr (l : List UInt8) (i x : Nat) (h : cj l i 2 = some x) : pr l i = some (UInt8.ofNat x) := by
  simp only [cj] at h
  unfold pr
  cases h1 : hv (l.getD (2 * i) 0) with
  | none => rw [h1] at h; cases h
  | some a =>
    cases h2 : hv (l.getD (2 * i + 1) 0) with
    | none => rw [h1, h2] at h; cases h
    | some b =>
      rw [h1, h2] at h
      injection h with h
      rw [← h]
theorem cj_lt (l : List UInt8) (i j x : Nat) (hj : j ≤ 2) (h : cj l i j = some x) : x < 256 := by
  match j, hj with
  | 0, _ => simp only [cj] at h; injection h with h; omega
  | 1, _ => simp only [cj] at h; have := hv_lt h; omega
  | 2, _ =>
    simp only [cj] at h
    split at h
    · rename_i h1 h2
      injection h with h
      have := hv_lt h1
      have := hv_lt h2
      omega
    · cases h
/-- 'b << 4 | half'. -/
theorem or_half (x y : Nat) (hx : x < 16) (hy : y < 16) : bits .or .u8 ((x : Int) * 16) (y : Int) = ((16 * x + y : Nat) : Int) := by
  have h : ∀ (a b : Fin 16), bits .or .u8 (((a.val : Nat) : Int) * 16) ((b.val : Nat) : Int) = ((16 * a.val + b.val : Nat) : Int) := by decide +kernel
  exact h ⟨x, hx⟩ ⟨y, hy⟩
/-- A row: bytes, one that is being made, and noughts. -/
def rowA (m : List UInt8) (x r : Nat) : Array Value := ((m ++ UInt8.ofNat x :: List.replicate r 0).map bv).toArray
theorem rowA_get (m : List UInt8) (x r : Nat) (hx : x < 256) : (rowA m x r)[m.length]? = some (.int .u8 (x : Int)) := by
  have e : (UInt8.ofNat x).toNat = x := by rw [UInt8.toNat_ofNat']; exact Nat.mod_eq_of_lt hx
  simp [rowA, bv, e]
theorem rowA_set (m : List UInt8) (x y r : Nat) (hy : y < 256) : (rowA m x r).setIfInBounds m.length (.int .u8 (y : Int)) = rowA m y r := by
  have e : (UInt8.ofNat y).toNat = y := by rw [UInt8.toNat_ofNat']; exact Nat.mod_eq_of_lt hy
  apply Array.toList_inj.1
  simp [rowA, bv, e]
/-- A row: bytes, and noughts. -/
def rowK (m : List UInt8) (r : Nat) : Array Value := ((m ++ List.replicate r 0).map bv).toArray
theorem rowK_succ (m : List UInt8) (r : Nat) : rowK m (r + 1) = rowA m 0 r := by simp [rowA, rowK, List.replicate_succ]
theorem rowA_next (m : List UInt8) (x r : Nat) : rowA m x r = rowK (m ++ [UInt8.ofNat x]) r := by simp [rowA, rowK]
theorem rowK_made (n : Nat) : madeCells #[.int .u8 0] n = rowK [] n := by
  apply Array.ext_getElem?
  intro j
  by_cases hj : j < n
  · simp [madeCells, rowK, bv, hj, Nat.mod_one]
  · rw [Array.getElem?_eq_none (by simp [madeCells]; omega), Array.getElem?_eq_none (by simp [rowK]; omega)]
theorem Blk.rowK_sl {w : World} {g : Nat} {m : List UInt8} (h : Blk w g 5 (rowK m 0)) (n : Nat) (hn : n = m.length) : Sl w (.slice (some ⟨g, 0, none⟩) n n) m := by
  subst hn
  refine ⟨_, _, rfl, Nat.le_refl _, fun _ => ⟨g, 0, rfl, fun j hj => ?_⟩⟩
  rw [Nat.zero_add, h.cell j]
  simp [rowK, bv, List.getElem?_eq_getElem hj]

/-- A pair of a text's bytes, as new memory. -/
theorem conv_pair (s : ByteArray) (k : Nat) (w : World) (h : 2 * k + 2 ≤ s.size) :
    ∃ C W, (convert 9 25 (.string (s.extract (2 * k) (2 * k + 2)))).run Try.prog w = .ok (.slice (some ⟨w.heap.size, 0, none⟩) 2 C) W ∧ 2 ≤ C ∧
      (∀ j, j < 2 → W.cell? ⟨w.heap.size, j, none⟩ = some (.int .u8 ((s.data.toList.getD (2 * k + j) 0).toNat : Int))) ∧ Below w.heap.size w W ∧ w.heap.size < W.heap.size := by
  have hsz : (s.extract (2 * k) (2 * k + 2)).size = 2 := by rw [ByteArray.size_extract]; omega
  have hr := run_bytes_of_string (P := Try.prog) w 9 25 5 (s.extract (2 * k) (2 * k + 2)) Try.underlying9 Try.underlying25 Try.underlying5
  rw [hsz] at hr
  refine ⟨_, _, hr, grownCap_ge w 2 0 _, ?_, (Below.refl _ _).drew.alloc (Nat.le_refl _) _, by simp⟩
  intro j hj
  have e : w.heap.size = w.drew.heap.size := rfl
  rw [e, World.cell?_alloc_mark, bytesRow_at _ _ j (by have : (s.extract (2 * k) (2 * k + 2)).data.size = 2 := hsz
                                                       omega)]
  congr 3
  have hd : (s.extract (2 * k) (2 * k + 2)).data = s.data.extract (2 * k) (2 * k + 2) := ByteArray.data_extract
  have hk : 2 * k + j < s.data.size := by have : s.data.size = s.size := rfl
                                          omega
  simp only [hd]
  rw [Array.getElem_extract]
  rw [List.getD_eq_getElem?_getD, Array.getElem?_toList, Array.getElem?_eq_getElem hk, Option.getD_some]

/-- What Unhex answers. -/
def UnhexPost (l : List UInt8) (w : World) (e : Ending) (w' : World) : Prop :=
  ∃ v n, e = .returned (.tuple #[v, .int .i64 n]) ∧ Below w.heap.size w w' ∧ ((∃ m, unhexB l = some m ∧ n = 0 ∧ Sl w' v m) ∨ (unhexB l = none ∧ n = 4 ∧ v = .slice none 0 0))

end Go.Proofs.Ytigepbklpiilpaa

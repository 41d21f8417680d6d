/-
  The walk of slices.Max at a vector's numbers.
-/
import Derived.Test.YtoglhpcboonpeaaCtxGreater
namespace Go.Proofs.Ytoglhpcboonpeaa
open Go.RowKit
open CtxM
set_option linter.unusedVariables false
set_option linter.unusedSimpArgs false
set_option maxRecDepth 20000

/-- The greatest of some numbers. -/
def maxL (L : List Nat) : Nat := L.foldl max 0
theorem maxL_snoc (L : List Nat) (x : Nat) : maxL (L ++ [x]) = max (maxL L) x := by simp [maxL, List.foldl_append]
theorem foldl_max (L : List Nat) (a t : Nat) : t < L.foldl max a ↔ t < a ∨ ∃ n ∈ L, t < n := by
  induction L generalizing a with
  | nil => simp
  | cons x L ih =>
    rw [List.foldl_cons, ih]
    constructor
    · rintro (h | ⟨n, hn, h⟩)
      · rcases Nat.lt_or_ge t a with h1 | h1
        · exact .inl h1
        · exact .inr ⟨x, List.mem_cons_self .., by omega⟩
      · exact .inr ⟨n, List.mem_cons_of_mem _ hn, h⟩
    · rintro (h | ⟨n, hn, h⟩)
      · exact .inl (by omega)
      · rcases List.mem_cons.1 hn with rfl | hn
        · exact .inl (by omega)
        · exact .inr ⟨n, hn, h⟩
theorem maxL_le (L : List Nat) (t : Nat) : maxL L ≤ t ↔ ∀ n ∈ L, n ≤ t := by
  have := foldl_max L 0 t
  unfold maxL
  constructor
  · intro h n hn
    rcases Nat.lt_or_ge t n with h1 | h1
    · have := this.2 (.inr ⟨n, hn, h1⟩); omega
    · exact h1
  · intro h
    rcases Nat.lt_or_ge t (L.foldl max 0) with h1 | h1
    · rcases this.1 h1 with h2 | ⟨n, hn, h2⟩
      · omega
      · have := h n hn; omega
    · exact h1
theorem maxL_take {V : List Nat} {k : Nat} (hk : k < V.length) : maxL (V.take (k + 1)) = max (maxL (V.take k)) (V.getD k 0) := by
  rw [List.take_succ_eq_append_getElem hk, maxL_snoc, List.getD_eq_getElem?_getD, List.getElem?_eq_getElem hk]; rfl

set_option maxHeartbeats 1000000 in
theorem max_any (g : Nat) (V : List Nat) (w : World) (hB : Blk w g 52 (uqs V)) (hV : V.length = 16) :
    Calls Try.prog 52 #[.slice (some ⟨g, 0, none⟩) 16 16] w fun e w' => e = .returned (.int .u64 (maxL V : Int)) ∧ w' = w := by
  have hc : ∀ k, k < 16 → w.cell? ⟨g, k, none⟩ = some (.int .u64 (V.getD k 0 : Int)) := fun k hk => by rw [hB.cell, uqs_get V k (by omega)]
  have h0 := hc 0 (by omega)
  have e0 : maxL (V.take 1) = V.getD 0 0 := by rw [maxL_take (by omega)]; simp [maxL]
  have E0 := Lib.hid e0
  have HC := Lib.hid hc
  have HV := Lib.hid hV
  clear hc e0 hB hV
  go_enter Try.func52, Try.ntmps52
  go_wp2
  go_loop [3, 4] (fun m i => ∃ k : Nat, 1 ≤ k ∧ k ≤ 16 ∧ i = .int .i64 (k : Int) ∧ m = .int .u64 (maxL (V.take k) : Int)) (fun _ i => 16 - (intOf i).toNat)
  case atStart => exact ⟨1, by omega, by omega, rfl, by rw [E0.out, List.getD_eq_getElem?_getD]⟩
  case round =>
    clear h0
    obtain ⟨k, hk1, hk, rfl, rfl⟩ := hrel
    by_cases hlt : k < 16
    · have hx := HC.out k hlt
      have HM := Lib.hid (maxL_take (V := V) (k := k) (by have := HV.out; omega))
      generalize V.getD k 0 = x at hx HM
      generalize maxL (V.take k) = m at HM ⊢
      go_wp2
      go_round
      case rel => exact ⟨k + 1, by omega, by omega, by go_num, by rw [HM.out]; congr 1; split <;> omega⟩
      case measure => simp [intOf]; omega
    · obtain rfl : k = 16 := by omega
      have e : V.take 16 = V := List.take_of_length_le (by have := HV.out; omega)
      rw [e]
      clear e
      go_wp2
      go_ret
      exact ⟨rfl, rfl⟩
end Go.Proofs.Ytoglhpcboonpeaa

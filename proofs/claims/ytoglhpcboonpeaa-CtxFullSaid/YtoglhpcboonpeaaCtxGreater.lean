/-
  The walk of ctx's greater.
-/
import Derived.Test.YtoglhpcboonpeaaCtxCompact
import Derived.Test.YtoglhpcboonpeaaCtxEq
namespace Go.Proofs.Ytoglhpcboonpeaa
open Go.RowKit
open CtxM
set_option linter.unusedVariables false
set_option linter.unusedSimpArgs false
set_option maxRecDepth 20000

/-- The greater number of each region. -/
def maxV (A B : List Nat) : List Nat := (List.range 16).map fun i => max (A.getD i 0) (B.getD i 0)
theorem maxV_length (A B : List Nat) : (maxV A B).length = 16 := by simp [maxV]
theorem maxV_getD (A B : List Nat) (i : Nat) (h : i < 16) : (maxV A B).getD i 0 = max (A.getD i 0) (B.getD i 0) := by
  rw [List.getD_eq_getElem?_getD, maxV, List.getElem?_map, List.getElem?_range h]; rfl
theorem run_index_uqs (U : List Nat) (hU : U.length = 16) (k : Nat) (hk : k < 16) (w : World) :
    (Instr.index 52 (.agg (uqs U)) (.int .i64 (k : Int))).run Try.prog w = .ok (.int .u64 (U.getD k 0 : Int)) w := by
  obtain ⟨i0, hi, hz0, hz1, hz2⟩ := info_parts info_u64
  have hat := uqs_get U k (by omega)
  have hs := uqs_size U
  have hsz : k < (uqs U).size := by omega
  generalize uqs U = A at hat hs hsz
  simp [Instr.index, asIntOf, run_underlying Try.underlying52, sizeOf, typeInfo, hi, hz1, hk]
  simp [part, hat]

set_option maxHeartbeats 1000000 in
theorem greater_any (A B : List Nat) (w : World) (hA : A.length = 16) (hB : B.length = 16) :
    Calls Try.prog 44 #[.agg (uqs A), .agg (uqs B)] w fun e w' => e = .returned (.agg (uqs (maxV A B))) ∧ Below w.heap.size w w' := by
  have hidx := run_index_uqs B hB
  obtain ⟨Z, hZ⟩ : ∃ Z : Array Value, Z = #[.int .u64 0, .int .u64 0, .int .u64 0, .int .u64 0, .int .u64 0, .int .u64 0, .int .u64 0, .int .u64 0, .int .u64 0, .int .u64 0, .int .u64 0, .int .u64 0, .int .u64 0, .int .u64 0, .int .u64 0, .int .u64 0] := ⟨_, rfl⟩
  have hZs : Z.size = 16 := by rw [hZ]; rfl
  have hmx := maxV_getD A B
  have hml := maxV_length A B
  generalize maxV A B = W at hmx hml ⊢
  have s1 : (w.alloc (.cells (uqs A) 52)).heap.size = w.heap.size + 1 := by simp
  have s2 : ((w.alloc (.cells (uqs A) 52)).alloc (.cells (uqs B) 52)).heap.size = w.heap.size + 1 + 1 := by simp
  have b0 : Blk (((w.alloc (.cells (uqs A) 52)).alloc (.cells (uqs B) 52)).alloc (.cells Z 52)) w.heap.size 52 (uqs A) := ((Blk.new w _ _).alloc _).alloc _
  have b1 : Blk (((w.alloc (.cells (uqs A) 52)).alloc (.cells (uqs B) 52)).alloc (.cells Z 52)) (w.heap.size + 1) 52 (uqs B) := by
    have := (Blk.new (w.alloc (.cells (uqs A) 52)) 52 (uqs B)).alloc (.cells Z 52)
    rw [s1] at this; exact this
  have b2 : Blk (((w.alloc (.cells (uqs A) 52)).alloc (.cells (uqs B) 52)).alloc (.cells Z 52)) (w.heap.size + 2) 52 Z := by
    have := Blk.new ((w.alloc (.cells (uqs A) 52)).alloc (.cells (uqs B) 52)) 52 Z
    rw [s2] at this; exact this
  have bb : Below w.heap.size w (((w.alloc (.cells (uqs A) 52)).alloc (.cells (uqs B) 52)).alloc (.cells Z 52)) := (((Below.refl _ _).alloc (Nat.le_refl _) _).alloc (by simp) _).alloc (by simp; omega) _
  have hinfB := uqs_info hB
  go_enter Try.func44, Try.ntmps44
  rw [hZ] at b0 b1 b2 bb
  go_wp2_with (refine wpList_load_row rfl 52 _ rfl (w.heap.size + 1) rfl 52 (uqs B) (0, 0) _ b1 Try.underlying52 rfl hinfB ?_)
  rw [← hZ] at b0 b1 b2 bb ⊢
  clear hZ
  go_loopw [8] (fun z wr => ∃ i : Nat, z = .int .i64 (i : Int) ∧ i ≤ 16 ∧ ∃ U, Mix W A U i ∧ Blk wr w.heap.size 52 (uqs U) ∧ Blk wr (w.heap.size + 2) 52 Z ∧ Below w.heap.size w wr) (fun z _ => 16 - (intOf z).toNat)
  case atStart => exact ⟨0, rfl, Nat.zero_le _, A, Mix.start hA W, b0, b2, bb⟩
  case round =>
    clear b0 b1 b2 bb
    obtain ⟨i, rfl, hi16, U, hU, hB0, hB2, hb⟩ := hrel
    by_cases hlt : i < 16
    · have hx := hidx i hlt
      have hU16 := hU.1
      have hUg := hU.get hlt
      rw [show at_ A ((i : Int) + 1) = A.getD i 0 by unfold at_; rw [show ((i : Int) + 1 - 1).toNat = i by omega]] at hUg
      have hc0 := hB0.cell i
      rw [uqs_get _ _ (by omega), hUg] at hc0
      have hfz := hB0.frozen i
      have hm := hmx i hlt
      have hst := hB0.set_ i (.int .u64 ((max (A.getD i 0) (B.getD i 0) : Nat) : Int))
      rw [uqs_set, ← hm] at hst
      have hnx := hU.next hlt
      generalize A.getD i 0 = x at hm hc0 hUg
      generalize B.getD i 0 = y at hm hx
      have HM := Lib.hid hm
      clear hm hUg hidx hmx
      go_wp2
      have e : (if x < y then (y : Int) else (x : Int)) = ((W.getD i 0 : Nat) : Int) := by
        rw [HM.out]
        split <;> omega
      rw [e]
      exact ⟨⟨i + 1, by go_num, by omega, _, hnx, hst, hB2.far (fun h => by have h2 : w.heap.size + 2 = w.heap.size := h; omega) _, Below.only hb (grown_setCell _ _ _ _) (Nat.le_refl _) hb.size⟩, by simp [intOf]; omega⟩
    · obtain rfl : i = 16 := by omega
      have hUW := hU.last hml
      subst hUW
      have hth := hB2.there
      rw [hZs, ← hml, ← uqs_size] at hth
      have hinf := uqs_info hml
      have hone := uqs_one U
      clear hidx hmx
      go_wp2_with (first | (refine wpList_load_row rfl 52 _ rfl w.heap.size rfl 52 (uqs U) (0, 0) _ hB0 Try.underlying52 rfl hinf ?_) | (refine wpList_store_mid rfl 52 _ _ rfl (w.heap.size + 2) 0 (uqs U) rfl rfl hth hinf hone ?_))
      have hE := hB2.setRow (ds := uqs U) (by rw [uqs_size, hml, hZs])
      have hgE := grown_setCells (w.heap.size + 2) (uqs U).toList 0 wr
      exact bodyPost_ret (v := .agg (uqs U)) (results_cell_row rfl _ _ (w.heap.size + 2) 52 (uqs U) (0, 0) _ rfl hE Try.underlying52 rfl hinf) rfl ⟨rfl, Below.only hb hgE (by omega) hb.size⟩
end Go.Proofs.Ytoglhpcboonpeaa

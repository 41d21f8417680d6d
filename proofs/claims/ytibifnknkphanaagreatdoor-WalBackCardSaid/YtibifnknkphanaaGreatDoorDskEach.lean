/-
  What Files answers is gone through: the contract of the iterator for a range over a function.
-/
import Derived.RangeFuncNested
import Derived.RangeFuncBound
import Derived.RangeFuncCalls
import Derived.RangeFuncLeaves
import Derived.Shelf.RegionOpen
import Derived.WalkKit
import Derived.OwnWalkIn
import Derived.TacticsInMore
import Derived.LoopNIn
import Derived.LoopIn
import Derived.Test.YtibifnknkphanaaGreatDoorDskFilesA
namespace Go.Proofs.YtibifnknkphanaaGreatDoor
open Go.RowKit Go.Maps Go.Shelf
open DskM
set_option linter.unusedVariables false
set_option linter.unusedSimpArgs false
set_option maxRecDepth 100000
attribute [local go_sem] Oper.semAt_some

/-- The blocks between lo and hi lie as they lay. -/
def Mid (lo hi : Nat) (W W' : World) : Prop := ∀ k, lo ≤ k → k < hi → W'.heap[k]? = W.heap[k]?
theorem Mid.refl (lo hi : Nat) (W : World) : Mid lo hi W W := fun _ _ _ => rfl
theorem Mid.trans {lo hi : Nat} {A B C : World} (h : Mid lo hi A B) (k : Mid lo hi B C) : Mid lo hi A C := fun i h1 h2 => (k i h1 h2).trans (h i h1 h2)
theorem Mid.of_keep {lo hi : Nat} {S : Nat → Prop} {A B : World} (h : Keep S A B) (hh : hi ≤ A.heap.size) (hn : ∀ k, lo ≤ k → k < hi → ¬ S k) : Mid lo hi A B := fun k h1 h2 => h.block k (by omega) (hn k h1 h2)
theorem Mid.putObj {lo hi : Nat} {w : World} (hh : hi ≤ w.heap.size) (W : World) (l : Nat) (o o' : Obj) (hl : w.heap.size ≤ l) (_ : W.heap[l]? = some o) (_ : o.isCells = false) (_ : o.isWalk = false) : Mid lo hi W (W.putObj l o') :=
  fun k h1 h2 => by
    show (W.heap.setIfInBounds l o')[k]? = W.heap[k]?
    rw [Array.getElem?_setIfInBounds_ne (by omega)]
theorem Mid.cell {lo hi : Nat} {A B : World} (h : Mid lo hi A B) {b i : Nat} {u : Value} (hu : A.cell? ⟨b, i, none⟩ = some u) (h1 : lo ≤ b) (h2 : b < hi) : B.cell? ⟨b, i, none⟩ = some u :=
  (World.cell?_of_block (a := ⟨b, i, none⟩) (h b h1 h2)).trans hu

/-- A name and a size that are among those that were noted. -/
abbrev Ent (N : List Nm) (Z : List Nat) := { x : Nm × Nat // x ∈ N.zip Z }
def encE {N : List Nm} {Z : List Nat} (x : Ent N Z) : Array Value := #[.string ⟨x.1.1.toArray⟩, .int .i64 (x.1.2 : Int)]
/-- .. that were noted between lo and hi. -/
def NotedIn (w : World) (lo hi b1 b2 : Nat) (N : List Nm) (Z : List Nat) : Prop :=
  ∃ A1 c1 A2 c2, w.cell? ⟨b1, 0, none⟩ = some (.slice A1 N.length c1) ∧ w.cell? ⟨b2, 0, none⟩ = some (.slice A2 Z.length c2) ∧ (lo ≤ b1 ∧ b1 < hi) ∧ (lo ≤ b2 ∧ b2 < hi) ∧
    ∀ k (h1 : k < N.length) (h2 : k < Z.length), ∃ g1 g2, A1 = some ⟨g1, 0, none⟩ ∧ A2 = some ⟨g2, 0, none⟩ ∧ (lo ≤ g1 ∧ g1 < hi) ∧ (lo ≤ g2 ∧ g2 < hi) ∧ w.cell? ⟨g1, k, none⟩ = some (.string ⟨N[k].toArray⟩) ∧ w.cell? ⟨g2, k, none⟩ = some (.int .i64 (Z[k] : Int))
theorem NotedIn.mid {w w' : World} {lo hi b1 b2 : Nat} {N : List Nm} {Z : List Nat} (h : NotedIn w lo hi b1 b2 N Z) (k : Mid lo hi w w') : NotedIn w' lo hi b1 b2 N Z := by
  obtain ⟨A1, c1, A2, c2, h1, h2, h3, h4, h5⟩ := h
  refine ⟨A1, c1, A2, c2, k.cell h1 h3.1 h3.2, k.cell h2 h4.1 h4.2, h3, h4, fun j j1 j2 => ?_⟩
  obtain ⟨g1, g2, e1, e2, q1, q2, q3, q4⟩ := h5 j j1 j2
  exact ⟨g1, g2, e1, e2, q1, q2, k.cell q3 q1.1 q1.2, k.cell q4 q2.1 q2.2⟩
theorem Noted.at {w : World} {b1 b2 base : Nat} {N : List Nm} {Z : List Nat} (h : Noted w b1 b2 base N Z) (hb1 : base ≤ b1) (hb2 : base ≤ b2) : NotedIn w base w.heap.size b1 b2 N Z := by
  obtain ⟨v1, v2, B1, B2, r1, r2⟩ := h
  obtain ⟨A1, c1, rfl⟩ := row_shape r1
  obtain ⟨A2, c2, rfl⟩ := r2.shape
  refine ⟨A1, c1, A2, c2, by rw [B1.cell]; rfl, by rw [B2.cell]; rfl, ⟨hb1, B1.lt⟩, ⟨hb2, B2.lt⟩, fun k h1 h2 => ?_⟩
  obtain ⟨g1, e1⟩ : ∃ g1, A1 = some ⟨g1, 0, none⟩ := by
    rcases r1.2 with ⟨e, h0⟩ | ⟨g1, cap, cur, e, _⟩
    · omega
    · injection e with e1 _ _; exact ⟨g1, e1⟩
  obtain ⟨g2, e2⟩ : ∃ g2, A2 = some ⟨g2, 0, none⟩ := by
    rcases r2.2 with ⟨e, h0⟩ | ⟨g1, cap, cur, e, _⟩
    · omega
    · injection e with e1 _ _; exact ⟨g1, e1⟩
  subst e1 e2
  refine ⟨g1, g2, rfl, rfl, World.ownsRow.lt r1 g1 rfl, World.ownsRow.lt r2 g2 rfl, ?_, ?_⟩
  · rw [World.ownsRow.cellAt r1 k (by omega)]
    simp [encStr, h1]
  · rw [World.ownsRow.cellAt r2 k (by omega)]
    simp [iv, h2]

set_option maxHeartbeats 4000000 in
theorem each_in (F : Fence) (n : Nat) (hF : F.fn 89) (hro : F.round = none) (hn : 1 ≤ n) (l b1 b2 lo hi : Nat) (N : List Nm) (Z : List Nat) (hNZ : N.length = Z.length) (hN : N.length ≤ 64) (J Jx : List (Ent N Z) → World → Prop)
    (hY : ∀ pre x W, J pre W → pre.length < N.length → YieldAt F (n - 1) Tryz.prog l (encE x) W fun e W' =>
      (e = .returned (.bool true) ∧ J (pre ++ [x]) W' ∧ Mid lo hi W W') ∨ (e = .returned (.bool false) ∧ Jx (pre ++ [x]) W'))
    (W : World) (hw : NotedIn W lo hi b1 b2 N Z) (h0 : J [] W) :
    CallsIn F n Tryz.prog 89 #[.func (.yield l) #[] #[], .pointer (some ⟨b1, 0, none⟩), .pointer (some ⟨b2, 0, none⟩)] W fun e W' => (∃ v, e = .returned v) ∧
      ((∃ ys, ys = (N.zip Z).attach ∧ J ys W') ∨ (∃ pre, (∃ k, k ≤ N.length ∧ pre = (N.zip Z).attach.take k) ∧ Jx pre W')) := by
  have hxl : (N.zip Z).attach.length = N.length := by simp [hNZ]
  have HW := Lib.hid hw
  obtain ⟨A1, c1, A2, c2, h1, h2, h3, h4, h5⟩ := hw
  have H5 := Lib.hid h5
  have HX := Lib.hid hxl
  have HNZ := Lib.hid hNZ
  clear h5 hxl hNZ
  refine callsIn_of_wp Tryz.func89 rfl hF ?_ hro
  simp only [Tryz.ntmps89, List.size_toArray, List.length_cons, List.length_nil, Nat.reduceAdd, Nat.reduceSub, Array.replicate_succ, Array.replicate_zero, List.push_toArray, List.append_toArray, List.nil_append, List.cons_append]
  gi_wp2
  gi_loopw [8] (fun i wr => ∃ k : Nat, k ≤ N.length ∧ i = .int .i64 k ∧ J ((N.zip Z).attach.take k) wr ∧ Mid lo hi W wr)
    (fun i _ => N.length - (intOf i).toNat)
  case atStart => exact ⟨0, Nat.zero_le _, rfl, h0, Mid.refl _ _ _⟩
  case round =>
    obtain ⟨k, hk, rfl, hJs, hnx⟩ := hrel
    by_cases hlt : k < N.length
    · have hz : k < Z.length := by rw [← HNZ.out]; exact hlt
      obtain ⟨g1, g2, rfl, rfl, q1, q2, q3, q4⟩ := H5.out k hlt hz
      have p2 := hnx.cell h2 h4.1 h4.2
      have p3 := hnx.cell q3 q1.1 q1.2
      have p4 := hnx.cell q4 q2.1 q2.2
      have hka : k < (N.zip Z).attach.length := by rw [HX.out]; exact hlt
      obtain ⟨x, hx⟩ : ∃ x, (N.zip Z).attach[k] = x := ⟨_, rfl⟩
      have hxv : x.1 = (N[k], Z[k]) := by rw [← hx]; simp
      have hts : (N.zip Z).attach.take (k + 1) = (N.zip Z).attach.take k ++ [x] := by rw [List.take_succ_eq_append_getElem hka, hx]
      obtain ⟨fn, tmps, assign, body, hy, hR⟩ := hY _ x wr hJs (by rw [List.length_take, HX.out]; omega)
      have he : encE x = #[.string ⟨N[k].toArray⟩, .int .i64 (Z[k] : Int)] := by unfold encE; rw [hxv]
      rw [he] at hy
      have HTS := Lib.hid hts
      have HR := Lib.hid hR
      have hzl : Z.length ≤ 64 := by rw [← HNZ.out]; exact hN
      clear hxv hx hts he hR q3 q4 h1
      generalize N[k] = nk at hy p3
      generalize Z[k] = zk at hy p4
      generalize hNl : N.length = nl at hk hlt hN ⊢
      generalize hZl : Z.length = zl at p2 hzl hz
      have hkz : k < zl := hz
      have hk64 : (k : Int) ≤ 64 := by omega
      gi_wp2
      refine HR.out.mono ?_
      rintro e W3 (⟨rfl, hJ3, hk3⟩ | ⟨rfl, hJx3⟩)
      · gi_wp2
        go_roundw
        case rel => exact ⟨k + 1, by omega, by simp, by rw [HTS.out]; exact hJ3, hnx.trans hk3⟩
        case measure => simp [intOf]; omega
      · gi_wp2
        refine bodyPost_ret (results_none rfl _ _ _) rfl ?_
        exact ⟨⟨_, rfl⟩, .inr ⟨_, ⟨k + 1, by omega, HTS.out.symm⟩, hJx3⟩⟩
    · obtain rfl : k = N.length := by omega
      gi_wp2
      go_end0
      exact ⟨⟨_, rfl⟩, .inl ⟨_, rfl, by rw [← HX.out, List.take_length] at hJs; exact hJs⟩⟩
theorem each_stops (F : Fence) (n : Nat) (hF : F.fn 89) (hro : F.round = none) (hn : 1 ≤ n) (b1 b2 lo hi : Nat) (N : List Nm) (Z : List Nat) (hNZ : N.length = Z.length) (hN : N.length ≤ 64) (w : World) (hhi : hi ≤ w.heap.size) (hw : NotedIn w lo hi b1 b2 N Z) :
    SeqStopsK F n Tryz.prog 89 #[.pointer (some ⟨b1, 0, none⟩), .pointer (some ⟨b2, 0, none⟩)] (encE (N := N) (Z := Z)) (Mid lo hi) (fun ys => ys = (N.zip Z).attach) (fun pre => ∃ k, k ≤ N.length ∧ pre = (N.zip Z).attach.take k) N.length w := fun l J Jx W hW _ _ hY h0 =>
  each_in F n hF hro hn l b1 b2 lo hi N Z hNZ hN J Jx hY W (hw.mid (fun k _ h2 => hW.block k (by omega))) h0
end Go.Proofs.YtibifnknkphanaaGreatDoor

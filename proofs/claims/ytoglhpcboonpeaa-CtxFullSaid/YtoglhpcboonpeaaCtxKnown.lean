/-
  The walk of the laws' known: the chapter's rows.
-/
import Derived.Test.YtoglhpcboonpeaaCtxNew
import Derived.Test.YtoglhpcboonpeaaCtxEq
namespace Go.Proofs.Ytoglhpcboonpeaa
open Go.RowKit
open CtxM
set_option linter.unusedVariables false
set_option linter.unusedSimpArgs false
set_option maxRecDepth 20000

def K0 : List Nat × List Dt := (zeros, [])
def K1 : List Nat × List Dt := (1 :: List.replicate 15 0, [])
def K2 : List Nat × List Dt := (1 :: List.replicate 15 0, [(1, 3)])
def K3 : List Nat × List Dt := (3 :: List.replicate 15 0, [])
def K5 : List Nat × List Dt := (zeros, [(1, 5)])
theorem k1 : addS K0 (1, 1) = K1 := by decide
theorem k2 : addS K1 (1, 3) = K2 := by decide
theorem k3 : addS K2 (1, 2) = K3 := by decide
theorem k5 : addS K0 (1, 5) = K5 := by decide

/-- Add again, of a state under a name: what is left, and that the rest stays. -/
theorem add_step (g : Nat) (v : Value) (S T : List Nat × List Dt) (d : Dt) (b : Bool) (w : World) (hc : Cx w g v S.1 S.2) (hl : S.2.length < 4096) (hT : addS S d = T) (hM : May d) (hb : decide (May d ∧ ¬ In S.1 S.2 d) = b) :
    Calls Try.prog 11 #[.pointer (some ⟨g, 0, none⟩), .agg #[.int .i64 d.1, .int .u64 (d.2 : Int)]] w fun e w' =>
      e = .returned (.tuple #[.bool b, .int .i64 0]) ∧ ∃ v', Cx w' g v' T.1 T.2 ∧ Keep (Foot g v) w w' ∧ Newer w.heap.size v v' := by
  refine (add_any g v S.1 S.2 d w hc hl).mono ?_
  rintro e w' ⟨rfl, v', h1, h2, h3⟩
  have e1 : addS (S.1, S.2) d = T := hT
  rw [e1] at h1
  exact ⟨by rw [hb, if_pos hM], v', h1, h2, h3⟩

theorem uqs_zero (a b : Nat) (U : List Nat) (h : U = a :: List.replicate 15 0) {w : World} {g : Nat} {t : TypeId} (hB : Blk w g t (uqs U)) : w.cell? ⟨g, 0, none⟩ = some (.int .u64 (a : Int)) := by
  rw [hB.cell, h]; rfl
/-- A new block of sixteen noughts, a vector laid over it. -/
theorem vec_laid (w : World) (U : List Nat) (hU : U.length = 16) (Z : Array Value) (hZ : Z.size = 16) :
    (w.alloc (.cells Z 52)).there w.heap.size 0 (uqs U).size ∧ Blk ((w.alloc (.cells Z 52)).setCells w.heap.size 0 (uqs U).toList) w.heap.size 52 (uqs U) ∧ Below w.heap.size w ((w.alloc (.cells Z 52)).setCells w.heap.size 0 (uqs U).toList) := by
  have hB := Blk.new w 52 Z
  have hth := hB.there
  rw [hZ, ← hU, ← uqs_size] at hth
  exact ⟨hth, hB.setRow (by rw [uqs_size, hU, hZ]), Below.only ((Below.refl _ _).alloc (Nat.le_refl _) _) (grown_setCells _ _ _ _) (Nat.le_refl _) (by simp)⟩

set_option maxHeartbeats 4000000 in
theorem known_any (w : World) : Calls Try.prog 9 #[] w fun e w' => e = .returned (.bool true) ∧ Below w.heap.size w w' := by
  go_enter Try.func9, Try.ntmps9
  go_wp2_with fail
  refine (new_any w).mono ?_
  rintro e w1 ⟨rfl, hc1, hb1⟩
  go_wp2_with fail
  refine (add_step w.heap.size _ K0 K1 (1, 1) true w1 hc1 (by decide) k1 (by decide) (by decide)).mono ?_
  rintro e w2 ⟨rfl, v2, hc2, hk2, hn2⟩
  go_wp2_with fail
  refine (add_step w.heap.size _ K1 K2 (1, 3) true w2 hc2 (by decide) k2 (by decide) (by decide)).mono ?_
  rintro e w3 ⟨rfl, v3, hc3, hk3, hn3⟩
  have hb3 : Below w.heap.size w w3 := Keep.below (Keep.below hb1 hk2 hb1.size (by rintro i (rfl | h); exact Nat.le_refl _; cases h)) hk3 (by have := hk2.size; have := hb1.size; omega) (by rintro i (rfl | h); exact Nat.le_refl _; exact (hn2 i h).elim (fun h => by cases h) (fun h => by have := hb1.size; omega))
  go_wp2_with fail
  refine (vector_any w.heap.size v3 K2.1 K2.2 w3 hc3).mono ?_
  rintro e w4 ⟨rfl, hb4⟩
  go_wp2_with fail
  have hc4 := hc3.below hb4
  refine (extra_any w.heap.size v3 K2.1 K2.2 w4 hc4 (by decide)).mono ?_
  rintro e w5 ⟨v5, rfl, ho5, hb5⟩
  have hc5 := hc4.below hb5
  have hb05 : Below w.heap.size w w5 := (hb3.trans (hb4.mono hb3.size)).trans (hb5.mono (Nat.le_trans hb3.size hb4.size))
  have hs5 := ho5.sd
  have ho5b := ho5.lt
  have hv3lo : ∀ i, v3.ownBlock = some i → w.heap.size ≤ i := fun i h => (hn3 i h).elim (fun h => (hn2 i h).elim (fun h => by cases h) (fun h => by have := hb1.size; omega)) (fun h => by have := hb1.size; have := hk2.size; omega)
  have hv3 := hc4.row.lt
  have hg4 := hc4.blk.lt
  have hz45 := hb5.size
  clear hc1 hb1 hk2 hn2 hc2 hk3 hn3 hc3 hb3 hb4 hb5 hc4 ho5
  obtain ⟨U, hU⟩ : ∃ U, U = K2.1 := ⟨_, rfl⟩
  have hU16 : U.length = 16 := by rw [hU]; rfl
  rw [← hU]
  have HU := Lib.hid hU
  clear hU
  obtain ⟨hth, hBa, hba⟩ := vec_laid w5 U hU16 #[.int .u64 0, .int .u64 0, .int .u64 0, .int .u64 0, .int .u64 0, .int .u64 0, .int .u64 0, .int .u64 0, .int .u64 0, .int .u64 0, .int .u64 0, .int .u64 0, .int .u64 0, .int .u64 0, .int .u64 0, .int .u64 0] rfl
  have hinf := uqs_info hU16
  have hone := uqs_one U
  have hsA : w5.heap.size < (((w5.alloc (.cells #[.int .u64 0, .int .u64 0, .int .u64 0, .int .u64 0, .int .u64 0, .int .u64 0, .int .u64 0, .int .u64 0, .int .u64 0, .int .u64 0, .int .u64 0, .int .u64 0, .int .u64 0, .int .u64 0, .int .u64 0, .int .u64 0] 52)).setCells w5.heap.size 0 (uqs U).toList)).heap.size := hBa.lt
  go_wp2_with (refine wpList_store_mid rfl 52 _ _ rfl w5.heap.size 0 (uqs U) rfl rfl hth hinf hone ?_)
  have hc6 := hc5.below hba
  have hs6 := hs5.below hba
  have hb6 := hb05.trans (hba.mono hb05.size)
  have hgw := hc5.blk.lt
  have hsz5 := hb05.size
  clear hth hinf hone hc5 hs5 hba hb05
  generalize (w5.alloc (.cells #[.int .u64 0, .int .u64 0, .int .u64 0, .int .u64 0, .int .u64 0, .int .u64 0, .int .u64 0, .int .u64 0, .int .u64 0, .int .u64 0, .int .u64 0, .int .u64 0, .int .u64 0, .int .u64 0, .int .u64 0, .int .u64 0] 52)).setCells w5.heap.size 0 (uqs U).toList = w6 at hBa hc6 hs6 hb6 hsA ⊢
  go_wp2_with fail
  refine (add_step w.heap.size v3 K2 K3 (1, 2) true w6 hc6 (by decide) k3 (by decide) (by decide)).mono ?_
  rintro e w7 ⟨rfl, v7, hc7, hk7, hn7⟩
  have hna : ∀ i, Foot w.heap.size v3 i → i < w4.heap.size := by
    rintro i (rfl | h)
    · exact hg4
    · exact (hv3 i h).2
  have hBa7 := hBa.kept hk7 (fun h => by have := hna _ h; omega)
  have hs7 := hs6.kept hk7 (fun i hi h => by have := hna _ h; have := (ho5b i hi).1; omega)
  have hb7 : Below w.heap.size w w7 := Keep.below hb6 hk7 hb6.size (by
    rintro i (rfl | h)
    · exact Nat.le_refl _
    · exact hv3lo _ h)
  clear hBa hc6 hs6 hb6 hk7 hn7
  go_wp2_with fail
  refine (vector_any w.heap.size v7 K3.1 K3.2 w7 hc7).mono ?_
  rintro e w8 ⟨rfl, hb8⟩
  go_wp2_with fail
  have hc8 := hc7.below hb8
  refine (extra_any w.heap.size v7 K3.1 K3.2 w8 hc8 (by decide)).mono ?_
  rintro e w9 ⟨v9, rfl, ho9, hb9⟩
  have hb09 : Below w.heap.size w w9 := (hb7.trans (hb8.mono hb7.size)).trans (hb9.mono (Nat.le_trans hb7.size hb8.size))
  have hs9 := ho9.sd
  have hBa9 := (hBa7.below hb8 hBa7.lt).below hb9 (hBa7.below hb8 hBa7.lt).lt
  have hs59 := (hs7.below hb8).below hb9
  clear hBa7 hs7 hb7 hc7 hb8 hc8 hb9 ho9
  obtain ⟨T, hT⟩ : ∃ T, T = K3.1 := ⟨_, rfl⟩
  have hT16 : T.length = 16 := by rw [hT]; rfl
  rw [← hT]
  have HT := Lib.hid hT
  clear hT
  obtain ⟨hth, hBc, hba⟩ := vec_laid w9 T hT16 #[.int .u64 0, .int .u64 0, .int .u64 0, .int .u64 0, .int .u64 0, .int .u64 0, .int .u64 0, .int .u64 0, .int .u64 0, .int .u64 0, .int .u64 0, .int .u64 0, .int .u64 0, .int .u64 0, .int .u64 0, .int .u64 0] rfl
  have hinf := uqs_info hT16
  have hone := uqs_one T
  go_wp2_with (refine wpList_store_mid rfl 52 _ _ rfl w9.heap.size 0 (uqs T) rfl rfl hth hinf hone ?_)
  have hBa10 := hBa9.below hba hBa9.lt
  have hs510 := hs59.below hba
  have hs10 := hs9.below hba
  have hb10 := hb09.trans (hba.mono hb09.size)
  clear hth hinf hone hBa9 hs59 hs9 hba hb09
  generalize (w9.alloc (.cells #[.int .u64 0, .int .u64 0, .int .u64 0, .int .u64 0, .int .u64 0, .int .u64 0, .int .u64 0, .int .u64 0, .int .u64 0, .int .u64 0, .int .u64 0, .int .u64 0, .int .u64 0, .int .u64 0, .int .u64 0, .int .u64 0] 52)).setCells w9.heap.size 0 (uqs T).toList = w10 at hBc hBa10 hs510 hs10 hb10 ⊢
  go_wp2_with fail
  refine (new_any w10).mono ?_
  rintro e w11 ⟨rfl, hc11, hb11⟩
  go_wp2_with fail
  refine (add_step w10.heap.size _ K0 K5 (1, 5) true w11 hc11 (by decide) k5 (by decide) (by decide)).mono ?_
  rintro e w12 ⟨rfl, v12, hc12, hk12, hn12⟩
  have hb12 : Below w10.heap.size w10 w12 := Keep.below hb11 hk12 hb11.size (by rintro i (rfl | h); exact Nat.le_refl _; cases h)
  go_wp2_with fail
  refine (next_any w10.heap.size v12 K5.1 K5.2 0 w12 hc12 (by omega) (by decide)).mono ?_
  rintro e w13 ⟨rfl, hg13⟩
  have hb13 : Below w10.heap.size w10 w13 := hb12.trans (hg13.below.mono hb12.size)
  have hBa13 := hBa10.below hb13 hBa10.lt
  have hBc13 := hBc.below hb13 hBc.lt
  have hs513 := hs510.below hb13
  have hs13 := hs10.below hb13
  have hbe := hb10.trans (hb13.mono hb10.size)
  have hN1 : nextN (lastF K5.1 K5.2 ((0 : Nat) + 1)) = 6 := by decide
  have hN2 : nextE (lastF K5.1 K5.2 ((0 : Nat) + 1)) = 0 := by decide
  rw [hN1, hN2]
  have ca := uqs_zero 1 0 U HU.out hBa13
  have cc := uqs_zero 3 0 T HT.out hBc13
  clear hN1 hN2 hBa10 hBc hs510 hs10 hb10 hc11 hb11 hc12 hk12 hn12 hb12 hg13 hb13 hBa13 hBc13
  have hs513' : Sd w13 v5 [(1, 3)] := hs513
  obtain ⟨A5, n5, c5, rfl⟩ := hs513.shape
  obtain ⟨rfl, hcc5, b5, o5, rfl, x0, x1, _, _⟩ := hs513'.cons
  have hs13' : Sd w13 v9 [] := hs13
  obtain ⟨A9, n9, c9, rfl⟩ := hs13.shape
  obtain rfl : n9 = 0 := hs13'.len
  have hde := fun w => dot_eq (1, 3) (1, 3) w
  clear hs513 hs513' hs13 hs13'
  go_wp2
  go_ret
  exact ⟨rfl, hbe⟩
end Go.Proofs.Ytoglhpcboonpeaa

/-
  The walks of the document's side: taps, in, Sum.
-/
import Derived.Test.YtbglghjmcjdmeaaCrcMem
import Derived.Test.YtbglghjmcjdmeaaCrcMath
namespace Go.Proofs.Ytbglghjmcjdmeaa
open Go.RowKit
set_option linter.unusedVariables false

/-- The text of the taps. -/
def tapsT : ByteArray := ⟨#[48, 48, 48, 49, 49, 49, 49, 48, 49, 49, 48, 49, 49, 49, 48, 48, 48, 49, 49, 48, 49, 49, 49, 49, 48, 49, 48, 48, 48, 48, 48, 49]⟩
theorem tapsT_size : tapsT.size = 32 := rfl
theorem taps_any (w : World) : Calls Try.prog 22 #[] w fun e w' => e = .returned (.string tapsT) ∧ w = w' := by
  go_enter Try.func22, Try.ntmps22
  go_wp2
  go_ret
  exact ⟨rfl, rfl⟩
theorem tapsT_bit : ∀ i : Fin 32, (tapsT.data[i.val]? = some (if poly.testBit i.val then 49 else 48)) := by decide +kernel

/-- A bit of a number. -/
def bt (x i : Nat) : Bool := x.testBit i

/-- 32 bits as cells, of which the first k are x's, the others y's. -/
def bitL (x y k : Nat) : List Value := (List.range 32).map fun i => .bool (if i < k then bt x i else bt y i)
def bitA (x y k : Nat) : Array Value := (bitL x y k).toArray
theorem bitL_length (x y k : Nat) : (bitL x y k).length = 32 := by simp [bitL]
theorem bitA_size (x y k : Nat) : (bitA x y k).size = 32 := by simp [bitA, bitL_length]
theorem bitA_get (x y k i : Nat) (h : i < 32) : (bitA x y k)[i]? = some (.bool (if i < k then bt x i else bt y i)) := by simp [bitA, bitL, h]
theorem bitA_ext {x y k x' y' k' : Nat} (h : ∀ i, i < 32 → (if i < k then bt x i else bt y i) = (if i < k' then bt x' i else bt y' i)) : bitA x y k = bitA x' y' k' := by
  apply Array.ext_getElem?
  intro j
  by_cases hj : j < 32
  · rw [bitA_get _ _ _ _ hj, bitA_get _ _ _ _ hj, h j hj]
  · rw [Array.getElem?_eq_none (by rw [bitA_size]; omega), Array.getElem?_eq_none (by rw [bitA_size]; omega)]
theorem bitA_set (x y k : Nat) (b : Bool) (hk : k < 32) (hb : b = bt x k) : (bitA x y k).setIfInBounds k (.bool b) = bitA x y (k + 1) := by
  apply Array.ext_getElem?
  intro j
  by_cases hj : j < 32
  · rw [bitA_get _ _ _ _ hj]
    by_cases e : j = k
    · subst e
      rw [Array.getElem?_setIfInBounds_self_of_lt (by rw [bitA_size]; exact hj), if_pos (by omega), hb]
    · rw [Array.getElem?_setIfInBounds_ne (by omega), bitA_get _ _ _ _ hj]
      have : (j < k) = (j < k + 1) := by simp; omega
      simp only [this]
  · rw [Array.getElem?_eq_none (by simp [bitA_size]; omega), Array.getElem?_eq_none (by rw [bitA_size]; omega)]
theorem bitA_full (x y : Nat) : bitA x y 32 = bitA x x 0 := bitA_ext fun i hi => by rw [if_pos hi, if_neg (by omega)]
theorem info_bits : (Try.prog.info? 42).map (·.size) = some 32 := by kernel_rfl
theorem bitA_info (x y k : Nat) : (Try.prog.info? 42).map (·.size) = some (bitA x y k).size := by rw [info_bits, bitA_size]
theorem bitA_one (x y k : Nat) : (bitA x y k).all (·.oneCell') = true := by
  rw [Array.all_eq_true_iff_forall_mem]
  intro v hv
  simp only [bitA, bitL, List.mem_toArray, List.mem_map] at hv
  obtain ⟨n, _, rfl⟩ := hv
  rfl
/-- 32 bits, all of a number's. -/
def bitsOf (x : Nat) : Array Value := bitA x x 0
theorem bitsOf_get (x i : Nat) (h : i < 32) : (bitsOf x)[i]? = some (.bool (bt x i)) := by rw [bitsOf, bitA_get _ _ _ _ h, if_neg (by omega)]

theorem tap_is (k : Nat) (h : k < tapsT.size) : (((tapsT[k]).toNat : Int) == 49) = bt poly k := by
  have hk : k < 32 := h
  have h1 := tapsT_bit ⟨k, hk⟩
  have h2 : tapsT.data[k]? = some tapsT[k] := Array.getElem?_eq_getElem h
  simp only [h2] at h1
  injection h1 with h1
  have h3 := congrArg (fun c : UInt8 => ((c.toNat : Int) == 49)) h1
  refine Eq.trans h3 ?_
  unfold bt
  cases poly.testBit k <;> rfl
theorem in_next {w wr : World} {x R k : Nat} {b : Bool} (hB0 : Blk wr w.heap.size 42 (bitsOf x)) (hB1 : Blk wr (w.heap.size + 1) 42 (bitsOf 0))
    (hB2 : Blk wr (w.heap.size + 1 + 1) 42 (bitA R 0 k)) (hb : Below w.heap.size w wr) (hk : k < 32) (e : b = bt R k) :
    ∃ k' : Nat, k' ≤ 32 ∧ Value.int .i64 ((k : Int) + 1) = .int .i64 (k' : Int) ∧ Blk (wr.setCell ⟨w.heap.size + 1 + 1, k, none⟩ (.bool b)) w.heap.size 42 (bitsOf x) ∧
      Blk (wr.setCell ⟨w.heap.size + 1 + 1, k, none⟩ (.bool b)) (w.heap.size + 1) 42 (bitsOf 0) ∧ Blk (wr.setCell ⟨w.heap.size + 1 + 1, k, none⟩ (.bool b)) (w.heap.size + 1 + 1) 42 (bitA R 0 k') ∧
      Below w.heap.size w (wr.setCell ⟨w.heap.size + 1 + 1, k, none⟩ (.bool b)) :=
  ⟨k + 1, by omega, by go_num, hB0.far (by simp; omega) _, hB1.far (by simp) _, by rw [← bitA_set R 0 k b hk e]; exact hB2.set_ k _, hb.setCell (by simp; omega) _⟩

/-- A bit, taken in. -/
def inN (x : Nat) (bit : Bool) : Nat := stepT (x ^^^ (if bit then 1 else 0))
theorem inN_bit (x : Nat) (bit : Bool) (i : Nat) : bt (inN x bit) i = (bt x (i + 1) ^^ ((!(bt x 0 == bit)) && bt poly i)) := by
  unfold bt inN
  rw [stepT_bit x (if bit then 1 else 0) i (by cases bit <;> decide)]
  cases bit <;> cases x.testBit 0 <;> simp

set_option maxHeartbeats 1000000 in
theorem in_any (x : Nat) (bit : Bool) (w : World) (hx : x < 4294967296) :
    Calls Try.prog 19 #[.agg (bitsOf x), .bool bit] w fun e w' => e = .returned (.agg (bitsOf (inN x bit))) ∧ Below w.heap.size w w' := by
  have hB0 := Blk.new w 42 (bitsOf x)
  have hc0 : ∀ o, (w.alloc (.cells (bitsOf x) 42)).cell? ⟨w.heap.size, o, none⟩ = (bitsOf x)[o]? := fun o => hB0.cell o
  have h00 := bitsOf_get x 0 (by decide)
  go_enter Try.func19, Try.ntmps19
  go_wp2_with fail
  refine (taps_any _).mono ?_
  rintro e w' ⟨rfl, rfl⟩
  clear hc0 h00
  go_wp2
  change Code.wp _ _ _ _ (((w.alloc (.cells (bitsOf x) 42)).alloc (.cells (bitsOf 0) 42)).alloc (.cells (bitsOf 0) 42))
  have hB0 := ((Blk.new w 42 (bitsOf x)).alloc (.cells (bitsOf 0) 42)).alloc (.cells (bitsOf 0) 42)
  have hB1 := (Blk.new (w.alloc (.cells (bitsOf x) 42)) 42 (bitsOf 0)).alloc (.cells (bitsOf 0) 42)
  have hB2 := Blk.new ((w.alloc (.cells (bitsOf x) 42)).alloc (.cells (bitsOf 0) 42)) 42 (bitsOf 0)
  rw [show (w.alloc (.cells (bitsOf x) 42)).heap.size = w.heap.size + 1 from by simp] at hB1
  rw [show ((w.alloc (.cells (bitsOf x) 42)).alloc (.cells (bitsOf 0) 42)).heap.size = w.heap.size + 2 from by simp] at hB2
  have hbw : Below w.heap.size w (((w.alloc (.cells (bitsOf x) 42)).alloc (.cells (bitsOf 0) 42)).alloc (.cells (bitsOf 0) 42)) := (((Below.refl _ _).alloc (Nat.le_refl _) _).alloc (by simp) _).alloc (by simp; omega) _
  generalize ((w.alloc (.cells (bitsOf x) 42)).alloc (.cells (bitsOf 0) 42)).alloc (.cells (bitsOf 0) 42) = W at hB0 hB1 hB2 hbw ⊢
  have hR2 := inN_bit x bit
  obtain ⟨R, eR⟩ : ∃ R, R = inN x bit := ⟨_, rfl⟩
  rw [← eR] at hR2
  have HR := Lib.hid hR2
  have ER := Lib.hid eR
  clear eR hR2
  generalize (!(bt x 0 == bit)) = U at HR ⊢
  have H32 := Lib.hid (show bt x 32 = false from Nat.testBit_lt_two_pow hx)
  go_loopw [8] (fun z wr => ∃ k : Nat, k ≤ 32 ∧ z = .int .i64 (k : Int) ∧ Blk wr w.heap.size 42 (bitsOf x) ∧ Blk wr (w.heap.size + 1) 42 (bitsOf 0) ∧ Blk wr (w.heap.size + 1 + 1) 42 (bitA R 0 k) ∧ Below w.heap.size w wr) (fun z _ => 32 - (intOf z).toNat)
  case atStart => exact ⟨0, Nat.zero_le _, rfl, hB0, hB1, by rw [show bitA R 0 0 = bitsOf 0 from bitA_ext fun i hi => by simp]; exact hB2, hbw⟩
  case round =>
    clear hB0 hB1 hB2 hbw
    obtain ⟨k, hk, rfl, hB0, hB1, hB2, hb⟩ := hrel
    by_cases hlt : k < 32
    · have hfr := hB2.frozen k
      have hck : wr.cell? ⟨w.heap.size + 1 + 1, k, none⟩ = some (.bool false) := by rw [hB2.cell, bitA_get _ _ _ _ hlt, if_neg (by omega)]; simp [bt]
      have hts : k < tapsT.size := by rw [tapsT_size]; exact hlt
      have HT := Lib.hid (tapsT_bit ⟨k, hlt⟩)
      by_cases h31 : k < 31
      · have hcx : wr.cell? ⟨w.heap.size, k + 1, none⟩ = some (.bool (bt x (k + 1))) := by rw [hB0.cell, bitsOf_get _ _ (by omega)]
        cases U
        all_goals
          go_wp2
          go_roundw
          case rel => exact in_next hB0 hB1 hB2 hb hlt (by rw [HR.out]; (first | rw [tap_is] | skip); cases bt x (k + 1) <;> cases bt poly k <;> rfl)
          case measure => simp [intOf]; omega
      · obtain rfl : k = 31 := by omega
        cases U
        all_goals
          go_wp2
          go_roundw
          case rel => exact in_next hB0 hB1 hB2 hb hlt (by rw [HR.out, H32.out]; (first | rw [tap_is] | skip); cases bt poly 31 <;> rfl)
          case measure => simp [intOf]
    · obtain rfl : k = 32 := by omega
      rw [show bitA R 0 32 = bitsOf R from bitA_ext fun i hi => by rw [if_pos hi, if_neg (by omega)]] at hB2
      obtain ⟨T, eT⟩ : ∃ T, T = bitsOf R := ⟨_, rfl⟩
      have hTs : T.size = 32 := by rw [eT]; exact bitA_size _ _ _
      have hTi : (Try.prog.info? 42).map (·.size) = some T.size := by rw [hTs]; exact info_bits
      have hT1 : T.all (·.oneCell') = true := by rw [eT]; exact bitA_one _ _ _
      rw [← eT] at hB2
      have ET := Lib.hid eT
      clear eT
      have hth : wr.there (w.heap.size + 1) 0 T.size := by rw [hTs, ← bitA_size 0 0 0]; exact hB1.there
      go_wp2_with (first | (refine wpList_load_row rfl 42 _ rfl (w.heap.size + 1 + 1) rfl 42 T (0, 0) _ hB2 Try.underlying42 rfl hTi ?_) | (refine wpList_store_mid rfl 42 _ _ rfl (w.heap.size + 1) 0 T rfl rfl hth hTi hT1 ?_))
      have hE : Blk (wr.setCells (w.heap.size + 1) 0 T.toList) (w.heap.size + 1) 42 T := hB1.setRow (by rw [hTs]; exact (bitA_size 0 0 0).symm)
      have hgE := grown_setCells (w.heap.size + 1) T.toList 0 wr
      exact bodyPost_ret (v := .agg T) (results_cell_row rfl _ _ (w.heap.size + 1) 42 T (0, 0) _ rfl hE Try.underlying42 rfl hTi) rfl ⟨congrArg (fun y => Ending.returned (.agg y)) (ET.out.trans (congrArg bitsOf ER.out)), Below.only hb hgE (by omega) hb.size⟩
end Go.Proofs.Ytbglghjmcjdmeaa

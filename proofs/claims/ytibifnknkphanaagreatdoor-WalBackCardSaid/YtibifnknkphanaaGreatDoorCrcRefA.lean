/-
  The walks of the document's side: taps, in, Sum.
-/
import Derived.Test.YtibifnknkphanaaGreatDoorCrcMem
import Derived.Test.YtibifnknkphanaaGreatDoorCrcMath
import Derived.StillTailTactics
namespace Go.Proofs.YtibifnknkphanaaGreatDoor
open Go.RowKit
set_option linter.unusedVariables false

/-- The text of the taps. -/
def tapsT : ByteArray := ⟨#[48, 48, 48, 49, 49, 49, 49, 48, 49, 49, 48, 49, 49, 49, 48, 48, 48, 49, 49, 48, 49, 49, 49, 49, 48, 49, 48, 48, 48, 48, 48, 49]⟩
theorem tapsT_size : tapsT.size = 32 := rfl
theorem taps_any (w : World) : Calls Tryz.prog 129 #[] w fun e w' => e = .returned (.string tapsT) ∧ w = w' := by
  go_enter Tryz.func129, Tryz.ntmps129
  go_wp2
  go_ret
  exact ⟨rfl, rfl⟩
theorem tapsT_bit : ∀ i : Fin 32, (tapsT.data[i.val]? = some (if poly.testBit i.val then 49 else 48)) := by decide +kernel

/-- A bit of a number. -/
def bt (x i : Nat) : Bool := x.testBit i

/-- 32 bits as cells, of which the first k are x's, the others y's. -/
def bitL (x y k : Nat) : List Value := (List.range 32).map fun i => .bool (if i < k then bt x i else bt y i)
def bitA (x y k : Nat) : Array Value := (bitL x y k).toArray
theorem bitL_length (x y k : Nat) : (bitL x y k).length = 32 := by simp [bitL]
theorem bitA_size (x y k : Nat) : (bitA x y k).size = 32 := by simp [bitA, bitL_length]
theorem bitA_get (x y k i : Nat) (h : i < 32) : (bitA x y k)[i]? = some (.bool (if i < k then bt x i else bt y i)) := by simp [bitA, bitL, h]
theorem bitA_ext {x y k x' y' k' : Nat} (h : ∀ i, i < 32 → (if i < k then bt x i else bt y i) = (if i < k' then bt x' i else bt y' i)) : bitA x y k = bitA x' y' k' := by
  apply Array.ext_getElem?
  intro j
  by_cases hj : j < 32
  · rw [bitA_get _ _ _ _ hj, bitA_get _ _ _ _ hj, h j hj]
  · rw [Array.getElem?_eq_none (by rw [bitA_size]; omega), Array.getElem?_eq_none (by rw [bitA_size]; omega)]
theorem bitA_set (x y k : Nat) (b : Bool) (hk : k < 32) (hb : b = bt x k) : (bitA x y k).setIfInBounds k (.bool b) = bitA x y (k + 1) := by
  apply Array.ext_getElem?
  intro j
  by_cases hj : j < 32
  · rw [bitA_get _ _ _ _ hj]
    by_cases e : j = k
    · subst e
      rw [Array.getElem?_setIfInBounds_self_of_lt (by rw [bitA_size]; exact hj), if_pos (by omega), hb]
    · rw [Array.getElem?_setIfInBounds_ne (by omega), bitA_get _ _ _ _ hj]
      have : (j < k) = (j < k + 1) := by simp; omega
      simp only [this]
  · rw [Array.getElem?_eq_none (by simp [bitA_size]; omega), Array.getElem?_eq_none (by rw [bitA_size]; omega)]
theorem bitA_full (x y : Nat) : bitA x y 32 = bitA x x 0 := bitA_ext fun i hi => by rw [if_pos hi, if_neg (by omega)]
theorem info_bits : (Tryz.prog.info? 146).map (·.size) = some 32 := by kernel_rfl
theorem bitA_info (x y k : Nat) : (Tryz.prog.info? 146).map (·.size) = some (bitA x y k).size := by rw [info_bits, bitA_size]
theorem bitA_one (x y k : Nat) : (bitA x y k).all (·.oneCell') = true := by
  rw [Array.all_eq_true_iff_forall_mem]
  intro v hv
  simp only [bitA, bitL, List.mem_toArray, List.mem_map] at hv
  obtain ⟨n, _, rfl⟩ := hv
  rfl
/-- 32 bits, all of a number's. -/
def bitsOf (x : Nat) : Array Value := bitA x x 0
theorem bitsOf_get (x i : Nat) (h : i < 32) : (bitsOf x)[i]? = some (.bool (bt x i)) := by rw [bitsOf, bitA_get _ _ _ _ h, if_neg (by omega)]

theorem tap_is (k : Nat) (h : k < tapsT.size) : (((tapsT[k]).toNat : Int) == 49) = bt poly k := by
  have hk : k < 32 := h
  have h1 := tapsT_bit ⟨k, hk⟩
  have h2 : tapsT.data[k]? = some tapsT[k] := Array.getElem?_eq_getElem h
  simp only [h2] at h1
  injection h1 with h1
  have h3 := congrArg (fun c : UInt8 => ((c.toNat : Int) == 49)) h1
  refine Eq.trans h3 ?_
  unfold bt
  cases poly.testBit k <;> rfl
theorem in_next {w wr : World} {x R k : Nat} {b : Bool} (hB0 : Blk wr w.heap.size 146 (bitsOf x)) (hB1 : Blk wr (w.heap.size + 1) 146 (bitsOf 0))
    (hB2 : Blk wr (w.heap.size + 1 + 1) 146 (bitA R 0 k)) (hb : Below w.heap.size w wr) (hk : k < 32) (e : b = bt R k) :
    ∃ k' : Nat, k' ≤ 32 ∧ Value.int .i64 ((k : Int) + 1) = .int .i64 (k' : Int) ∧ Blk (wr.setCell ⟨w.heap.size + 1 + 1, k, none⟩ (.bool b)) w.heap.size 146 (bitsOf x) ∧
      Blk (wr.setCell ⟨w.heap.size + 1 + 1, k, none⟩ (.bool b)) (w.heap.size + 1) 146 (bitsOf 0) ∧ Blk (wr.setCell ⟨w.heap.size + 1 + 1, k, none⟩ (.bool b)) (w.heap.size + 1 + 1) 146 (bitA R 0 k') ∧
      Below w.heap.size w (wr.setCell ⟨w.heap.size + 1 + 1, k, none⟩ (.bool b)) :=
  ⟨k + 1, by omega, by go_num, hB0.far (by simp; omega) _, hB1.far (by simp) _, by rw [← bitA_set R 0 k b hk e]; exact hB2.set_ k _, hb.setCell (by simp; omega) _⟩

/-- A bit, taken in. -/
def inN (x : Nat) (bit : Bool) : Nat := stepT (x ^^^ (if bit then 1 else 0))
theorem inN_bit (x : Nat) (bit : Bool) (i : Nat) : bt (inN x bit) i = (bt x (i + 1) ^^ ((!(bt x 0 == bit)) && bt poly i)) := by
  unfold bt inN
  rw [stepT_bit x (if bit then 1 else 0) i (by cases bit <;> decide)]
  cases bit <;> cases x.testBit 0 <;> simp

set_option maxHeartbeats 1000000 in
theorem in_any (x : Nat) (bit : Bool) (w : World) (hx : x < 4294967296) :
    Calls Tryz.prog 101 #[.agg (bitsOf x), .bool bit] w fun e w' => e = .returned (.agg (bitsOf (inN x bit))) ∧ Below w.heap.size w w' := by
  have hB0 := Blk.new w 146 (bitsOf x)
  have hc0 : ∀ o, (w.alloc (.cells (bitsOf x) 146)).cell? ⟨w.heap.size, o, none⟩ = (bitsOf x)[o]? := fun o => hB0.cell o
  have h00 := bitsOf_get x 0 (by decide)
  go_enter Tryz.func101, Tryz.ntmps101
  go_wp2_with fail
  refine (taps_any _).mono ?_
  rintro e w' ⟨rfl, rfl⟩
  clear hc0 h00
  go_wp2
  change Code.wp _ _ _ _ (((w.alloc (.cells (bitsOf x) 146)).alloc (.cells (bitsOf 0) 146)).alloc (.cells (bitsOf 0) 146))
  have hB0 := ((Blk.new w 146 (bitsOf x)).alloc (.cells (bitsOf 0) 146)).alloc (.cells (bitsOf 0) 146)
  have hB1 := (Blk.new (w.alloc (.cells (bitsOf x) 146)) 146 (bitsOf 0)).alloc (.cells (bitsOf 0) 146)
  have hB2 := Blk.new ((w.alloc (.cells (bitsOf x) 146)).alloc (.cells (bitsOf 0) 146)) 146 (bitsOf 0)
  rw [show (w.alloc (.cells (bitsOf x) 146)).heap.size = w.heap.size + 1 from by simp] at hB1
  rw [show ((w.alloc (.cells (bitsOf x) 146)).alloc (.cells (bitsOf 0) 146)).heap.size = w.heap.size + 2 from by simp] at hB2
  have hbw : Below w.heap.size w (((w.alloc (.cells (bitsOf x) 146)).alloc (.cells (bitsOf 0) 146)).alloc (.cells (bitsOf 0) 146)) := (((Below.refl _ _).alloc (Nat.le_refl _) _).alloc (by simp) _).alloc (by simp; omega) _
  generalize ((w.alloc (.cells (bitsOf x) 146)).alloc (.cells (bitsOf 0) 146)).alloc (.cells (bitsOf 0) 146) = W at hB0 hB1 hB2 hbw ⊢
  have hR2 := inN_bit x bit
  obtain ⟨R, eR⟩ : ∃ R, R = inN x bit := ⟨_, rfl⟩
  rw [← eR] at hR2
  have HR := Lib.hid hR2
  have ER := Lib.hid eR
  clear eR hR2
  generalize (!(bt x 0 == bit)) = U at HR ⊢
  have H32 := Lib.hid (show bt x 32 = false from Nat.testBit_lt_two_pow hx)
  go_loopw [8] (fun z wr => ∃ k : Nat, k ≤ 32 ∧ z = .int .i64 (k : Int) ∧ Blk wr w.heap.size 146 (bitsOf x) ∧ Blk wr (w.heap.size + 1) 146 (bitsOf 0) ∧ Blk wr (w.heap.size + 1 + 1) 146 (bitA R 0 k) ∧ Below w.heap.size w wr) (fun z _ => 32 - (intOf z).toNat)
  case atStart => exact ⟨0, Nat.zero_le _, rfl, hB0, hB1, by rw [show bitA R 0 0 = bitsOf 0 from bitA_ext fun i hi => by simp]; exact hB2, hbw⟩
  case round =>
    clear hB0 hB1 hB2 hbw
    obtain ⟨k, hk, rfl, hB0, hB1, hB2, hb⟩ := hrel
    by_cases hlt : k < 32
    · have hfr := hB2.frozen k
      have hck : wr.cell? ⟨w.heap.size + 1 + 1, k, none⟩ = some (.bool false) := by rw [hB2.cell, bitA_get _ _ _ _ hlt, if_neg (by omega)]; simp [bt]
      have hts : k < tapsT.size := by rw [tapsT_size]; exact hlt
      have HT := Lib.hid (tapsT_bit ⟨k, hlt⟩)
      by_cases h31 : k < 31
      · have hcx : wr.cell? ⟨w.heap.size, k + 1, none⟩ = some (.bool (bt x (k + 1))) := by rw [hB0.cell, bitsOf_get _ _ (by omega)]
        cases U
        all_goals
          go_wp2
          go_roundw
          case rel => exact in_next hB0 hB1 hB2 hb hlt (by rw [HR.out]; (first | rw [tap_is] | skip); cases bt x (k + 1) <;> cases bt poly k <;> rfl)
          case measure => simp [intOf]; omega
      · obtain rfl : k = 31 := by omega
        cases U
        all_goals
          go_wp2
          go_roundw
          case rel => exact in_next hB0 hB1 hB2 hb hlt (by rw [HR.out, H32.out]; (first | rw [tap_is] | skip); cases bt poly 31 <;> rfl)
          case measure => simp [intOf]
    · obtain rfl : k = 32 := by omega
      rw [show bitA R 0 32 = bitsOf R from bitA_ext fun i hi => by rw [if_pos hi, if_neg (by omega)]] at hB2
      obtain ⟨T, eT⟩ : ∃ T, T = bitsOf R := ⟨_, rfl⟩
      have hTs : T.size = 32 := by rw [eT]; exact bitA_size _ _ _
      have hTi : (Tryz.prog.info? 146).map (·.size) = some T.size := by rw [hTs]; exact info_bits
      have hT1 : T.all (·.oneCell') = true := by rw [eT]; exact bitA_one _ _ _
      rw [← eT] at hB2
      have ET := Lib.hid eT
      clear eT
      have hth : wr.there (w.heap.size + 1) 0 T.size := by rw [hTs, ← bitA_size 0 0 0]; exact hB1.there
      go_wp2_with (first | (refine wpList_load_row rfl 146 _ rfl (w.heap.size + 1 + 1) rfl 146 T (0, 0) _ hB2 Tryz.underlying146 rfl hTi ?_) | (refine wpList_store_mid rfl 146 _ _ rfl (w.heap.size + 1) 0 T rfl rfl hth hTi hT1 ?_))
      have hE : Blk (wr.setCells (w.heap.size + 1) 0 T.toList) (w.heap.size + 1) 146 T := hB1.setRow (by rw [hTs]; exact (bitA_size 0 0 0).symm)
      have hgE := grown_setCells (w.heap.size + 1) T.toList 0 wr
      exact bodyPost_ret (v := .agg T) (results_cell_row rfl _ _ (w.heap.size + 1) 146 T (0, 0) _ rfl hE Tryz.underlying146 rfl hTi) rfl ⟨congrArg (fun y => Ending.returned (.agg y)) (ET.out.trans (congrArg bitsOf ER.out)), Below.only hb hgE (by omega) hb.size⟩
end Go.Proofs.YtibifnknkphanaaGreatDoor

namespace Go.Proofs.YtibifnknkphanaaGreatDoor
open Go.RowKit
set_option linter.unusedVariables false
set_option maxRecDepth 20000

/-- The state behind so many bytes and bits. -/
def refAt (l : List UInt8) (k j : Nat) : Nat := bitIn ((l[k]?.getD 0).toNat) j (sumFrom 4294967295 (l.take k))
theorem refAt_lt (l : List UInt8) (k j : Nat) : refAt l k j < 4294967296 := bitIn_lt _ _ (sumFrom_lt _ (by decide))
theorem refAt_next (l : List UInt8) (k : Nat) (h : k < l.length) : refAt l k 8 = sumFrom 4294967295 (l.take (k + 1)) := by
  unfold refAt
  rw [List.getElem?_eq_getElem h, Option.getD_some, bitIn_byte, List.take_succ_eq_append_getElem h, sumFrom_snoc]
/-- The bit that is taken in next. -/
def refBit (c : UInt8) (j : Nat) : Bool := decide (c.toNat / 2 ^ j % 2 = 1)
theorem refAt_step (l : List UInt8) (k j : Nat) (h : k < l.length) : inN (refAt l k j) (refBit l[k] j) = refAt l k (j + 1) := by
  unfold refAt
  rw [List.getElem?_eq_getElem h, Option.getD_some, bitIn]
  unfold inN refBit
  by_cases hb : l[k].toNat / 2 ^ j % 2 = 1
  · simp [hb]
  · have h0 : l[k].toNat / 2 ^ j % 2 = 0 := by omega
    simp [h0]

/-- A load of a whole row, as a step that only reads. -/
theorem wpStill_load {P : Program} {ops : Array Oper} {w : World} {Q : Act → Prop} {op : Oper} {rest : List Oper} {a : Act} (hgd : op.guard = none) (ty : TypeId) (x : Operand) (ho : op.op = .load ty x)
    (p v : Value) (hx : a.eval x = p) (hr : (Instr.loadAt ty p).run P w = .ok v w) (h : wpStill P ops w Q rest (a.put op.dst v)) : wpStill P ops w Q (op :: rest) a := by
  have hw : Region.wanted op (yielded ops a.tmps) = true := by simp [Region.wanted, hgd]
  refine wpStill_step fun K hK => ?_
  rw [if_pos hw]
  unfold Oper.still execOp
  simp only [ho, hx, Sem.run_bind, hr, Result.andThen_ok, Sem.run_pure, Oper.stillUpon_value]
  exact hK _ h

theorem ref_bit (c : UInt8) (j : Nat) : (((c.toNat : Int) / 2 ^ j).tmod 2 == 1) = refBit c j := by
  have e : ((c.toNat : Int) / 2 ^ j) = ((c.toNat / 2 ^ j : Nat) : Int) := by
    rw [Int.natCast_ediv]; congr 1
  rw [e]
  unfold refBit
  generalize c.toNat / 2 ^ j = x
  rw [Int.tmod_eq_emod_of_nonneg (by omega), Bool.eq_iff_iff]
  simp
  omega
/-- in, with what it answers named. -/
theorem in_of (T : Array Value) (x : Nat) (bit : Bool) (w : World) (hT : T = bitsOf x) (hx : x < 4294967296) :
    Calls Tryz.prog 101 #[.agg T, .bool bit] w fun e w' => ∃ T', e = .returned (.agg T') ∧ Hid (T' = bitsOf (inN x bit)) ∧ T'.size = 32 ∧ T'.all (·.oneCell') = true ∧ Below w.heap.size w w' := by
  subst hT
  exact (in_any x bit w hx).mono fun e w' ⟨he, hb⟩ => ⟨_, he, Lib.hid rfl, bitA_size _ _ _, bitA_one _ _ _, hb⟩

/-- The number read back from bit j on. -/
def backN (s j : Nat) : Nat := 2 ^ (32 - j) - 1 - s / 2 ^ j
theorem backN_step (s j : Nat) (hs : s < 4294967296) (hj : j < 32) : 2 * backN s (j + 1) + (if bt s j then 0 else 1) = backN s j := by
  have h := back_step s j
  have e : 2 ^ (32 - j) = 2 * 2 ^ (32 - (j + 1)) := by rw [show 32 - j = (32 - (j + 1)) + 1 by omega, Nat.pow_succ, Nat.mul_comm]
  have hlt : s / 2 ^ (j + 1) < 2 ^ (32 - (j + 1)) := by
    rw [Nat.div_lt_iff_lt_mul (Nat.two_pow_pos _), ← Nat.pow_add, show 32 - (j + 1) + (j + 1) = 32 by omega]; exact hs
  unfold backN bt
  rw [e]
  rcases h with h | h
  · exact h
  · omega
theorem backN_lt (s j : Nat) (hj : j < 32) : backN s (j + 1) < 2147483648 := by
  unfold backN
  have h : 2 ^ (32 - (j + 1)) ≤ 2 ^ 31 := Nat.pow_le_pow_right (by decide) (by omega)
  generalize s / 2 ^ (j + 1) = y
  generalize 2 ^ (32 - (j + 1)) = p at h ⊢
  omega

set_option maxHeartbeats 1000000 in
theorem refSum_any (v : Value) (l : List UInt8) (w : World) (hs : Sl w v l) (hl : l.length ≤ 140737488355328) :
    Calls Tryz.prog 50 #[v] w fun e w' => e = .returned (.int .u32 (crcN l : Int)) ∧ Below w.heap.size w w' := by
  have hs' := hs
  obtain ⟨A, c, rfl, hc, ha⟩ := hs
  clear ha
  go_enter Tryz.func50, Tryz.ntmps50
  go_wp2
  change Code.wp _ _ _ _ (w.alloc (.cells (bitsOf 0) 146))
  go_loopw [4] (fun z wr => ∃ k : Nat, k ≤ 32 ∧ z = .int .i64 (k : Int) ∧ Blk wr w.heap.size 146 (bitA 4294967295 0 k) ∧ Below w.heap.size w wr) (fun z _ => 32 - (intOf z).toNat)
  case atStart => exact ⟨0, Nat.zero_le _, rfl, by rw [show bitA 4294967295 0 0 = bitsOf 0 from bitA_ext fun i hi => by simp]; exact Blk.new w _ _, (Below.refl _ _).alloc (Nat.le_refl _) _⟩
  case round =>
    obtain ⟨k, hk, rfl, hB, hb⟩ := hrel
    by_cases hlt : k < 32
    · have hfr := hB.frozen k
      have hck : wr.cell? ⟨w.heap.size, k, none⟩ = some (.bool false) := by rw [hB.cell, bitA_get _ _ _ _ hlt, if_neg (by omega)]; simp [bt]
      have HB : Hid (true = bt 4294967295 k) := Lib.hid (by unfold bt; rw [show (4294967295 : Nat) = 2 ^ 32 - 1 from rfl, Nat.testBit_two_pow_sub_one]; simp [hlt])
      go_wp2
      go_roundw
      case rel => exact ⟨k + 1, by omega, by go_num, by rw [← bitA_set 4294967295 0 k true hlt HB.out]; exact hB.set_ k _, hb.setCell (by simp) _⟩
      case measure => simp [intOf]; omega
    · obtain rfl : k = 32 := by omega
      rw [show bitA 4294967295 0 32 = bitsOf 4294967295 from bitA_ext fun i hi => by rw [if_pos hi, if_neg (by omega)]] at hB
      go_wp2
      rw [show ((32 : Nat) : Int) = 32 from rfl]
      go_loopw [5] (fun z wr => ∃ k : Nat, k ≤ l.length ∧ z = .int .i64 (k : Int) ∧ Blk wr w.heap.size 146 (bitsOf (sumFrom 4294967295 (l.take k))) ∧ Below w.heap.size w wr) (fun z _ => l.length - (intOf z).toNat)
      case atStart => exact ⟨0, Nat.zero_le _, rfl, hB, hb⟩
      case round =>
        clear hB hb hlt hk
        obtain ⟨k, hk, rfl, hB, hb⟩ := hrel
        by_cases hlt : k < l.length
        · go_wp2
          go_loopw [6] (fun z wr => ∃ j : Nat, j ≤ 8 ∧ z = .int .i64 (j : Int) ∧ Blk wr w.heap.size 146 (bitsOf (refAt l k j)) ∧ Below w.heap.size w wr) (fun z _ => 8 - (intOf z).toNat)
          case atStart => exact ⟨0, Nat.zero_le _, rfl, hB, hb⟩
          case round =>
            clear hB hb
            obtain ⟨j, hj, rfl, hB, hb⟩ := hrel
            by_cases hlj : j < 8
            · obtain ⟨A', c', e, _, ha⟩ := hs'.below hb
              injection e with e1 e2 e3
              subst e1 e3
              obtain ⟨b, o, rfl, hx⟩ := ha (by omega)
              have hcell := hx k hlt
              clear hx ha
              have hX := refAt_lt l k j
              have E := Lib.hid (refAt_step l k j hlt)
              obtain ⟨T, eT⟩ : ∃ T, T = bitsOf (refAt l k j) := ⟨_, rfl⟩
              have hTs : T.size = 32 := by rw [eT]; exact bitA_size _ _ _
              have hTi : (Tryz.prog.info? 146).map (·.size) = some T.toList.length := by rw [Array.length_toList, hTs]; exact info_bits
              rw [← eT] at hB
              have ET := Lib.hid eT
              clear eT
              have hR : wr.drew.rangeAt w.heap.size 0 T.toList := fun i v hv => by rw [Nat.zero_add, hB.drew.cell i]; simpa using hv
              have hld := run_loadAt_mid (P := Tryz.prog) wr.drew w.heap.size 0 146 T.toList _ hR Tryz.underlying146 rfl hTi
              rw [Array.toArray_toList] at hld
              have hcell1 : wr.drew.cell? ⟨b, o + k, none⟩ = some (.int .u8 (l[k].toNat : Int)) := hcell
              have hB1 := hB.drew
              have hb1 := hb.drew
              clear hcell hB hb hR
              go_wp2
              refine wp_region_still_tail 10 (by kernel_rfl) (by kernel_rfl) ?_
              simp only [List.take_succ_cons, List.take_zero, List.drop_succ_cons, List.drop_zero]
              change wpStill _ _ wr.drew (fun a' => wpList _ _ _ _ a' wr.drew) _ _
              generalize wr.drew = W at hcell1 hB1 hb1 hld ⊢
              have hj64 : IntKind.u64.wrap (j : Int) = (j : Int) := by rw [IntKind.wrap_u64]; omega
              refine wpStill_load rfl _ _ rfl _ _ rfl hld ?_
              simp only [Act.put, List.setIfInBounds_toArray, List.set_cons_zero, List.set_cons_succ]
              clear hld
              repeat still_step
              refine wpStill_nil ?_
              clear hcell1 hj64
              go_wp2_with fail
              rw [ref_bit]
              refine (in_of T (refAt l k j) (refBit l[k] j) _ ET.out hX).mono ?_
              rintro e w2 ⟨T2, rfl, ET2, hT2s, hT21, hb2⟩
              have hT2i : (Tryz.prog.info? 146).map (·.size) = some T2.size := by rw [hT2s]; exact info_bits
              have hB2 := hB1.below hb2 hB1.lt
              have hb3 := hb1.trans (hb2.mono hb1.size)
              have hth : w2.there w.heap.size 0 T2.size := by rw [hT2s, ← hTs]; exact hB2.there
              clear hB1 hb1 hb2
              go_wp2_with (refine wpList_store_mid rfl 146 _ _ rfl w.heap.size 0 T2 rfl rfl hth hT2i hT21 ?_)
              go_roundw
              case rel => exact ⟨j + 1, by omega, by go_num, by rw [← E.out, ← ET2.out]; exact hB2.setRow (by rw [hT2s, hTs]), Below.only hb3 (grown_setCells _ _ _ _) (Nat.le_refl _) hb3.size⟩
              case measure => simp [intOf]; omega
            · obtain rfl : j = 8 := by omega
              rw [refAt_next l k hlt] at hB
              go_wp2
              go_roundw
              case rel => exact ⟨k + 1, by omega, by go_num, hB, hb⟩
              case measure => simp [intOf]; omega
        · obtain rfl : k = l.length := by omega
          rw [List.take_length] at hB
          have hS := sumFrom_lt l (s := 4294967295) (by decide)
          have E := Lib.hid (show crcN l = 4294967295 - sumFrom 4294967295 l from rfl)
          generalize sumFrom 4294967295 l = X at hB hS E
          go_wp2
          go_loop [7, 8] (fun x z => ∃ j : Nat, j ≤ 32 ∧ z = .int .i64 ((j : Int) - 1) ∧ x = .int .u32 (backN X j : Int)) (fun _ z => (intOf z + 1).toNat)
          case atStart => exact ⟨32, Nat.le_refl _, rfl, by rw [show backN X 32 = 0 by unfold backN; omega]; rfl⟩
          case round =>
            obtain ⟨j, hj, rfl, rfl⟩ := hrel
            rcases j with _ | m
            · have E2 := Lib.hid (show backN X 0 = 4294967295 - X by unfold backN; simp)
              go_wp2
              go_ret
              exact ⟨ret_int (by rw [E.out, E2.out]), hb⟩
            · rw [show (((m + 1 : Nat) : Int) - 1) = (m : Int) by omega]
              have hS2 := Lib.hid (backN_step X m hS (by omega))
              have hlt2 := backN_lt X m (by omega)
              have hck : wr.cell? ⟨w.heap.size, m, none⟩ = some (.bool (bt X m)) := by rw [hB.cell, bitsOf_get _ _ (by omega)]
              generalize backN X (m + 1) = Y at hS2 hlt2 ⊢
              cases hbt : bt X m
              all_goals
                rw [hbt] at hck hS2
                clear hbt
                go_wp2
                go_round
                case rel => exact ⟨m, by omega, rfl, by rw [← hS2.out]; simp⟩
                case measure => simp [intOf]
end Go.Proofs.YtibifnknkphanaaGreatDoor

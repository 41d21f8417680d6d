/-
  The walk of minsterlaw02.FramesChanged.
-/
import Derived.Test.YtbglghjmcjdmeaaCrcKnown
namespace Go.Proofs.Ytbglghjmcjdmeaa
open Go.RowKit
set_option linter.unusedVariables false

/-- Block g begins with the bytes m. -/
def RowAt (w : World) (g : Nat) (m : List UInt8) : Prop := ∃ cur, Blk w g 5 cur ∧ m.length ≤ cur.size ∧ cur.toList.take m.length = m.map bv
theorem RowAt.cell {w : World} {g : Nat} {m : List UInt8} (h : RowAt w g m) (j : Nat) (hj : j < m.length) : w.cell? ⟨g, j, none⟩ = some (.int .u8 (m[j].toNat : Int)) := by
  obtain ⟨cur, hB, hl, ht⟩ := h
  rw [hB.cell, ← Array.getElem?_toList]
  have h1 : (cur.toList.take m.length)[j]? = cur.toList[j]? := List.getElem?_take_of_lt hj
  rw [← h1, ht, List.getElem?_map, List.getElem?_eq_getElem hj]
  rfl
theorem RowAt.frozen {w : World} {g : Nat} {m : List UInt8} (h : RowAt w g m) (j : Nat) : w.frozen? ⟨g, j, none⟩ = false := by
  obtain ⟨cur, hB, hl, ht⟩ := h
  exact hB.frozen j
theorem RowAt.sl {w : World} {g : Nat} {m : List UInt8} (h : RowAt w g m) (n c : Nat) (hn : n = m.length) (hc : n ≤ c) : Sl w (.slice (some ⟨g, 0, none⟩) n c) m := by
  subst hn
  exact ⟨_, c, rfl, hc, fun _ => ⟨g, 0, rfl, fun j hj => by rw [Nat.zero_add]; exact h.cell j hj⟩⟩
theorem RowAt.set_ {w : World} {g : Nat} {m : List UInt8} (h : RowAt w g m) (j : Nat) (hj : j < m.length) (c : UInt8) : RowAt (w.setCell ⟨g, j, none⟩ (bv c)) g (m.set j c) := by
  obtain ⟨cur, hB, hl, ht⟩ := h
  refine ⟨_, hB.set_ j (bv c), by simpa using hl, ?_⟩
  rw [Array.toList_setIfInBounds, List.length_set, List.take_set, ht, List.map_set]
theorem Own.row {w : World} {base n c : Nat} {A : Option Addr} {m : List UInt8} (h : Own w base 5 (.slice A n c) m) (h0 : 0 < m.length) : ∃ g, A = some ⟨g, 0, none⟩ ∧ base ≤ g ∧ n = m.length ∧ n ≤ c ∧ RowAt w g m := by
  rcases h.2 with ⟨_, h2⟩ | ⟨g, cap, cur, hv, hg, hh, hnc, _, hs, ht⟩
  · omega
  · injection hv with e1 e2 e3
    subst e1 e2 e3
    exact ⟨g, rfl, hg, rfl, hnc, cur, hh, by omega, by simpa using ht⟩

set_option maxHeartbeats 1000000 in
theorem changed_bad (v : Value) (l : List UInt8) (at_ : Int) (fl : Nat) (w : World) (hs : Sl w v l) (hl : l.length ≤ 140737488351232) (hf : fl < 4294967296) (ha1 : -9223372036854775808 ≤ at_) (ha2 : at_ ≤ 9223372036854775807)
    (h : 1500 < l.length ∨ fl = 0 ∨ at_ < 0 ∨ 8 * (l.length : Int) < at_) :
    Calls Try.prog 6 #[v, .int .i64 at_, .int .u32 (fl : Int)] w fun e w' => e = .returned (.bool true) ∧ Below w.heap.size w w' := by
  have hs' := hs
  obtain ⟨A, c, rfl, hc, ha⟩ := hs
  clear ha
  have close : ∀ W : World, W = w → Calls Try.prog 9 #[.slice (some ⟨w.heap.size, 0, none⟩) 1 1] (w.alloc (.cells #[.slice A l.length c] 23)) fun e w' => ∃ A' c', e = .returned (.slice A' (l.length + 4) c') ∧ Below w.heap.size w w' := by
    intro W _
    refine (close_any _ [l] _ (Sls.one w 23 _ _ hs') (by simp; omega) (by simp)).mono ?_
    rintro e w1 ⟨v1, rfl, ho1, hb1⟩
    obtain ⟨A1, n1, c1, rfl⟩ := ho1.shape
    obtain rfl : n1 = l.length + 4 := by have := ho1.sl.len; simpa [closeB_length] using this
    exact ⟨A1, c1, rfl, ((Below.refl _ _).alloc (Nat.le_refl _) _).trans (hb1.mono (by simp))⟩
  have Close := Lib.hid (close w rfl)
  clear close hs'
  by_cases h1 : 1500 < l.length
  · have h1' : (1500 : Int) < (l.length : Int) := by omega
    clear h
    go_enter Try.func6, Try.ntmps6
    go_wp2_with fail
    refine Close.out.mono ?_
    rintro e w1 ⟨A1, c1, rfl, hb1⟩
    go_wp2_with (go_at_call 8; refine (known_any _).mono ?_; rintro e w2 ⟨rfl, hb2⟩)
    go_ret
    exact ⟨rfl, hb1.trans (hb2.mono hb1.size)⟩
  · have h1' : ¬ (1500 : Int) < (l.length : Int) := by omega
    by_cases h2 : fl = 0
    · subst h2
      clear h
      go_enter Try.func6, Try.ntmps6
      go_wp2_with fail
      refine Close.out.mono ?_
      rintro e w1 ⟨A1, c1, rfl, hb1⟩
      go_wp2_with (go_at_call 8; refine (known_any _).mono ?_; rintro e w2 ⟨rfl, hb2⟩)
      go_ret
      exact ⟨rfl, hb1.trans (hb2.mono hb1.size)⟩
    · have h2' : ((fl : Int) == 0) = false := by simp; omega
      by_cases h3 : at_ < 0
      · clear h
        go_enter Try.func6, Try.ntmps6
        go_wp2_with fail
        refine Close.out.mono ?_
        rintro e w1 ⟨A1, c1, rfl, hb1⟩
        go_wp2_with (go_at_call 8; refine (known_any _).mono ?_; rintro e w2 ⟨rfl, hb2⟩)
        go_ret
        exact ⟨rfl, hb1.trans (hb2.mono hb1.size)⟩
      · have h4 : 8 * (l.length : Int) < at_ := by omega
        have h4' : 8 * ((l.length : Int) + 4) - 32 < at_ := by omega
        clear h
        go_enter Try.func6, Try.ntmps6
        go_wp2_with fail
        refine Close.out.mono ?_
        rintro e w1 ⟨A1, c1, rfl, hb1⟩
        go_wp2_with (go_at_call 8; refine (known_any _).mono ?_; rintro e w2 ⟨rfl, hb2⟩)
        go_ret
        exact ⟨rfl, hb1.trans (hb2.mono hb1.size)⟩

/-- The bits that one byte is xored with. -/
def flipV (fl i k : Nat) : UInt8 := UInt8.ofNat (fl / 2 ^ i % 2 * 2 ^ (k % 8))
theorem pow_mod8 (k : Nat) : 2 ^ (k % 8) ≤ 128 := by
  have h : 2 ^ (k % 8) ≤ 2 ^ 7 := Nat.pow_le_pow_right (by decide) (by omega)
  exact h
theorem flipV_toNat (fl i k : Nat) : (flipV fl i k).toNat = fl / 2 ^ i % 2 * 2 ^ (k % 8) := by
  have h := pow_mod8 k
  have hb : fl / 2 ^ i % 2 < 2 := Nat.mod_lt _ (by decide)
  unfold flipV
  rw [UInt8.toNat_ofNat']
  apply Nat.mod_eq_of_lt
  generalize 2 ^ (k % 8) = p at h
  generalize fl / 2 ^ i % 2 = b at hb
  have : b = 0 ∨ b = 1 := by omega
  rcases this with rfl | rfl <;> omega
theorem flip_byte (c : UInt8) (fl i k : Nat) : bits .xor .u8 (c.toNat : Int) ((((fl : Int) / 2 ^ i).tmod 2) % 256 * 2 ^ (k % 8) % 256) = ((c ^^^ flipV fl i k).toNat : Int) := by
  have h := pow_mod8 k
  have hb : fl / 2 ^ i % 2 < 2 := Nat.mod_lt _ (by decide)
  have hv := flipV_toNat fl i k
  have e : ((fl : Int) / 2 ^ i) = ((fl / 2 ^ i : Nat) : Int) := by rw [Int.natCast_ediv]; congr 1
  have e2 : ((2 : Int) ^ (k % 8)) = ((2 ^ (k % 8) : Nat) : Int) := (Int.natCast_pow 2 (k % 8)).symm
  have e3 : (((fl : Int) / 2 ^ i).tmod 2) % 256 * 2 ^ (k % 8) % 256 = ((fl / 2 ^ i % 2 * 2 ^ (k % 8) : Nat) : Int) := by
    rw [e, e2, Int.tmod_eq_emod_of_nonneg (Int.natCast_nonneg _)]
    generalize 2 ^ (k % 8) = p at h
    generalize fl / 2 ^ i = x at hb
    have : x % 2 = 0 ∨ x % 2 = 1 := by omega
    rcases this with h0 | h1
    · have : (x : Int) % 2 = 0 := by omega
      rw [this, h0]; simp
    · have : (x : Int) % 2 = 1 := by omega
      rw [this, h1]; omega
  rw [e3, ← hv, UInt8.toNat_xor]
  exact u8_xor_nat c.toNat (flipV fl i k).toNat c.toNat_lt (flipV fl i k).toNat_lt
theorem flip_le (m : List UInt8) (x fl at_ i : Nat) (hj : (at_ + i) / 8 < m.length) (h : leN m = x ^^^ ((fl % 2 ^ i) * 2 ^ at_)) :
    leN (m.set ((at_ + i) / 8) (m[(at_ + i) / 8] ^^^ flipV fl i (at_ + i))) = x ^^^ ((fl % 2 ^ (i + 1)) * 2 ^ at_) := by
  rw [leN_set m _ _ hj, flipV_toNat, h, ← change_bit x fl at_ i]
  congr 1
  rw [Nat.mul_assoc]
  congr 1
  rw [show (256 : Nat) = 2 ^ 8 from rfl, ← Nat.pow_mul, ← Nat.pow_add]
  congr 1
  omega

set_option maxHeartbeats 1000000 in
theorem changed_good (v : Value) (l : List UInt8) (at_ : Nat) (fl : Nat) (w : World) (hs : Sl w v l) (hl : l.length ≤ 1500) (hf : fl < 4294967296) (hf0 : 0 < fl) (ha : at_ ≤ 8 * l.length) :
    Calls Try.prog 6 #[v, .int .i64 (at_ : Int), .int .u32 (fl : Int)] w fun e w' => e = .returned (.bool true) ∧ Below w.heap.size w w' := by
  have hs' := hs
  obtain ⟨A, c, rfl, hc, ha⟩ := hs
  clear ha
  have h1 : ¬ (1500 : Int) < (l.length : Int) := by omega
  have h2 : ((fl : Int) == 0) = false := by simp; omega
  have h3 : ¬ (at_ : Int) < 0 := by omega
  have h4 : ¬ 8 * ((l.length : Int) + 4) - 32 < (at_ : Int) := by omega
  go_enter Try.func6, Try.ntmps6
  go_wp2_with fail
  refine (close_any _ [l] _ (Sls.one w 23 _ _ hs') (by simp; omega) (by simp)).mono ?_
  rintro e w1 ⟨v1, rfl, ho1, hb1⟩
  obtain ⟨A1, n1, c1, rfl⟩ := ho1.shape
  rw [show [l].flatten = l by simp] at ho1
  obtain ⟨g, rfl, hg, hn1, hc1, hrow⟩ := ho1.row (by rw [closeB_length]; omega)
  rw [closeB_length] at hn1
  subst hn1
  have hb2 : Below w.heap.size w w1 := ((Below.refl _ _).alloc (Nat.le_refl _) _).trans (hb1.mono (by simp))
  have hgw : w.heap.size ≤ g := by simp at hg; omega
  clear ho1 hb1 hg hs'
  go_wp2
  go_loopw [8] (fun z wr => ∃ (i : Nat) (m : List UInt8), i ≤ 32 ∧ z = .int .i64 (i : Int) ∧ RowAt wr g m ∧ m.length = l.length + 4 ∧ leN m = leN (closeB l) ^^^ ((fl % 2 ^ i) * 2 ^ at_) ∧ Below w.heap.size w wr) (fun z _ => 32 - (intOf z).toNat)
  case atStart => exact ⟨0, closeB l, Nat.zero_le _, rfl, hrow, closeB_length l, by simp [Nat.mod_one], hb2⟩
  case round =>
    clear hrow hb2
    obtain ⟨i, m, hi, rfl, hrow, hml, hle, hb⟩ := hrel
    have HLE := Lib.hid hle
    clear hle
    by_cases hlt : i < 32
    · have hj : (at_ + i) / 8 < m.length := by omega
      have hcell := hrow.cell ((at_ + i) / 8) hj
      have hfr := hrow.frozen ((at_ + i) / 8)
      have hj2 : (at_ + i) / 8 < l.length + 4 := by omega
      have HML := Lib.hid hml
      clear hml
      go_wp2
      go_roundw
      case rel =>
        rw [flip_byte]
        exact ⟨i + 1, _, by omega, by go_num, hrow.set_ _ hj _, by simpa using HML.out, flip_le m _ fl at_ i hj HLE.out, hb.setCell (by simp; omega) _⟩
      case measure => simp [intOf]; omega
    · obtain rfl : i = 32 := by omega
      have hshut : crcN m ≠ resN := changed_shut (closeB l) m at_ fl (by rw [hml, closeB_length]) (by rw [closeB_length]; omega) hf0 hf (crcN_close l) (by
        have h := HLE.out
        rw [Nat.mod_eq_of_lt (show fl < 2 ^ 32 from hf)] at h
        exact h)
      have hsl := hrow.sl (l.length + 4) c1 hml.symm hc1
      have Hop := Lib.hid (open_no _ m wr hsl (by omega) (fun _ => hshut))
      clear hshut hsl hrow hml HLE
      go_wp2_with fail
      refine Hop.out.mono ?_
      rintro e w2 ⟨rfl, hb2⟩
      clear Hop
      have hb3 := hb.trans (hb2.mono hb.size)
      go_wp2_with (go_at_call 8; refine (known_any _).mono ?_; rintro e w3 ⟨rfl, hb4⟩)
      go_ret
      exact ⟨rfl, hb3.trans (hb4.mono hb3.size)⟩
end Go.Proofs.Ytbglghjmcjdmeaa

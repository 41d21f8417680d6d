/-
  The document's primes, its start and its constants.
-/
import Derived.Test.YtggijgclnnlfmaaDoorShaRefRoot
namespace Go.Proofs.YtggijgclnnlfmaaDoor
open Go.RowKit
set_option linter.unusedVariables false
set_option linter.unusedSimpArgs false

/-- What the test of divisors comes to. -/
def lp (n k : Nat) (is : Bool) : Nat → Bool
  | 0 => is
  | f + 1 => if k * k ≤ n then lp n (k + 1) (is && n % k != 0) f else is
def isP (n : Nat) : Bool := lp n 2 true 20
/-- How many primes there are up to n. -/
def cnt : Nat → Nat
  | 0 => 0
  | 1 => 0
  | n + 2 => cnt (n + 1) + if isP (n + 2) then 1 else 0
theorem cnt_succ (n : Nat) (h : 1 ≤ n) : cnt (n + 1) = cnt n + if isP (n + 1) then 1 else 0 := by
  obtain ⟨m, rfl⟩ : ∃ m, n = m + 1 := ⟨n - 1, by omega⟩
  rfl
def primeL : List Nat := ((List.range 310).map (· + 2)).filter isP
def primeAt (i : Nat) : Nat := primeL.getD i 0
theorem prime_found : ∀ n, n < 312 → 2 ≤ n → isP n = true → primeAt (cnt n - 1) = n := by decide +kernel
theorem cnt_few : ∀ n, n < 312 → cnt n ≤ 63 → n ≤ 310 := by decide +kernel
theorem lp_stop (n k : Nat) (is : Bool) (f : Nat) (h : ¬ k * k ≤ n) : lp n k is f = is := by
  cases f with
  | zero => rfl
  | succ f => unfold lp; rw [if_neg h]
theorem lp_go (n k : Nat) (is : Bool) (f : Nat) (h : k * k ≤ n) : lp n k is (f + 1) = lp n (k + 1) (is && n % k != 0) f := by
  conv => lhs; unfold lp
  rw [if_pos h]

theorem sq_le (k : Nat) (h : k ≤ 21) : k * k ≤ 441 := Nat.mul_le_mul h h
theorem sq_gt (k : Nat) (h : 20 < k) : 441 ≤ k * k := Nat.mul_le_mul h h

set_option maxHeartbeats 1000000 in
theorem prime_any (i : Nat) (hi : i ≤ 63) (w : World) :
    Calls Tryd.prog 37 #[.int .i64 (i : Int)] w fun e w' => e = .returned (.int .u64 (primeAt i : Int)) ∧ w = w' := by
  go_enter Tryd.func37, Tryd.ntmps37
  go_wp2
  go_loop [0, 3] (fun z y => ∃ n : Nat, 1 ≤ n ∧ n ≤ 311 ∧ y = .int .u64 (n : Int) ∧ z = .int .i64 ((i : Int) - (cnt n : Int)) ∧ cnt n ≤ i + 1 ∧ (cnt n = i + 1 → 2 ≤ n ∧ isP n = true)) (fun _ y => 400 - (intOf y).toNat)
  case atStart => exact ⟨1, Nat.le_refl _, by decide, rfl, by simp [cnt], by simp [cnt], by simp [cnt]⟩
  case round =>
    obtain ⟨n, hn1, hn2, rfl, rfl, hc, hp⟩ := hrel
    by_cases hci : cnt n ≤ i
    · have hn3 := cnt_few n (by omega) (by omega)
      have HP := Lib.hid hp
      have HC := Lib.hid (cnt_succ n hn1)
      have hge : (0 : Int) ≤ (i : Int) - (cnt n : Int) := by omega
      have hci63 : cnt n ≤ 63 := by omega
      clear hp hc
      generalize hcn : cnt n = c at hci hge HC hci63 ⊢
      have HCN := Lib.hid hcn
      clear hcn
      go_wp2
      rw [show ((n : Int) + 1) = ((n + 1 : Nat) : Int) by omega]
      have hm2 : 2 ≤ n + 1 := by omega
      have hm3 : n + 1 ≤ 311 := by omega
      have HM := Lib.hid (show n + 1 = n + 1 from rfl)
      generalize hmm : n + 1 = m at hm2 hm3 HC ⊢
      have HMM := Lib.hid hmm
      clear hmm HM hn1 hn2 hn3
      generalize hz : (i : Int) - (c : Int) = z at hge ⊢
      have HZ := Lib.hid (show Value.int .i64 z = Value.int .i64 ((i : Int) - (c : Int)) by rw [hz])
      have HZ2 := Lib.hid (show ((i : Int) - ((c + 1 : Nat) : Int)) = z - 1 by omega)
      have hzi : z ≤ 63 := by omega
      clear hz
      go_loop [4, 5] (fun y x => ∃ (k : Nat) (b : Bool), 2 ≤ k ∧ k ≤ 21 ∧ x = .int .u64 (k : Int) ∧ y = .bool b ∧ lp m k b (22 - k) = isP m) (fun _ x => 40 - (intOf x).toNat)
      case atStart => exact ⟨2, true, Nat.le_refl _, by decide, rfl, rfl, rfl⟩
      case round =>
        obtain ⟨k, b, hk2, hk, rfl, rfl, hl⟩ := hrel
        have hkk := sq_le k hk
        have eqk := mm_mul k k
        by_cases hle : k * k ≤ m
        · have hk20 : k ≤ 20 := by
            rcases Nat.lt_or_ge 20 k with h | h
            · have := sq_gt k h; omega
            · exact h
          obtain ⟨f, hf⟩ : ∃ f, 22 - k = f + 1 := ⟨21 - k, by omega⟩
          rw [hf, lp_go m k b f hle] at hl
          have HL := Lib.hid (show lp m (k + 1) (b && m % k != 0) (22 - (k + 1)) = isP m by rw [show 22 - (k + 1) = f by omega]; exact hl)
          clear hl hf
          have hle' : (k : Int) * (k : Int) ≤ (m : Int) := by rw [eqk]; omega
          have hq0 : (0 : Int) ≤ (k : Int) * (k : Int) := by rw [eqk]; omega
          have hq1 : (k : Int) * (k : Int) ≤ 441 := by rw [eqk]; omega
          clear hle eqk hkk
          cases b
          · go_wp2
            go_round
            case rel => exact ⟨k + 1, false, by omega, by omega, by go_num, rfl, by simpa using HL.out⟩
            case measure => simp [intOf]; omega
          · by_cases hr : m % k = 0
            · have hr' : (((m : Int) % (k : Int)) != 0) = false := by simp; omega
              have HRR := Lib.hid hr
              clear hr
              go_wp2
              go_round
              case rel => exact ⟨k + 1, false, by omega, by omega, by go_num, rfl, by simpa [HRR.out] using HL.out⟩
              case measure => simp [intOf]; omega
            · have hr' : (((m : Int) % (k : Int)) != 0) = true := by simp; omega
              have HRR := Lib.hid hr
              clear hr
              go_wp2
              go_round
              case rel => exact ⟨k + 1, true, by omega, by omega, by go_num, rfl, by have h := HL.out; rw [show (m % k != 0) = true by simp [HRR.out]] at h; simpa using h⟩
              case measure => simp [intOf]; omega
        · rw [lp_stop m k b _ hle] at hl
          have HL := Lib.hid hl
          clear hl
          have hle' : ¬ (k : Int) * (k : Int) ≤ (m : Int) := by rw [eqk]; omega
          have hq0 : (0 : Int) ≤ (k : Int) * (k : Int) := by rw [eqk]; omega
          have hq1 : (k : Int) * (k : Int) ≤ 441 := by rw [eqk]; omega
          clear hle eqk hkk
          cases b
          · have HX := Lib.hid (show cnt m = c by rw [HC.out, ← HL.out]; simp)
            go_wp2
            go_round
            case rel => exact ⟨m, by omega, hm3, rfl, by rw [HX.out]; exact HZ.out, by rw [HX.out]; omega, fun h => absurd h (by rw [HX.out]; omega)⟩
            case measure => have := HMM.out; simp [intOf]; omega
          · have HX := Lib.hid (show cnt m = c + 1 by rw [HC.out, ← HL.out]; simp)
            go_wp2
            go_round
            case rel => exact ⟨m, by omega, hm3, rfl, by rw [HX.out, HZ2.out], by rw [HX.out]; omega, fun h => ⟨hm2, HL.out.symm⟩⟩
            case measure => have := HMM.out; simp [intOf]; omega
    · have hc2 : cnt n = i + 1 := by omega
      obtain ⟨h2, hpn⟩ := hp hc2
      have E := Lib.hid (show n = primeAt i by have := prime_found n (by omega) h2 hpn; rw [hc2] at this; exact this.symm)
      have hneg : ¬ (0 : Int) ≤ (i : Int) - (cnt n : Int) := by omega
      clear hp hpn hc2 hc
      generalize (i : Int) - (cnt n : Int) = z at hneg ⊢
      go_wp2
      go_ret
      exact ⟨ret_int (by rw [← E.out]), rfl⟩

theorem start_root : ∀ i, i < 8 → root2 (primeAt i) = shaS.list.getD i 0 := by decide +kernel
theorem const_root : ∀ i, i < 64 → root3 (primeAt i) = kAt i := by decide +kernel
theorem primeAt_lt : ∀ i, i < 64 → primeAt i < 4294967296 := by decide +kernel
theorem refStart_any (i : Int) (w : World) : Calls Tryd.prog 22 #[.int .i64 i] w fun e w' => e = .returned (.int .u32 (startN i : Int)) ∧ w = w' := by
  by_cases h0 : i < 0
  · have E := Lib.hid (show startN i = 0 by unfold startN; rw [if_pos (.inl h0)])
    go_enter Tryd.func22, Tryd.ntmps22
    go_wp2
    go_ret
    exact ⟨ret_int (by rw [E.out]; rfl), rfl⟩
  · by_cases h8 : 7 < i
    · have E := Lib.hid (show startN i = 0 by unfold startN; rw [if_pos (.inr (by omega))])
      have h0' : 0 ≤ i := by omega
      go_enter Tryd.func22, Tryd.ntmps22
      go_wp2
      go_ret
      exact ⟨ret_int (by rw [E.out]; rfl), rfl⟩
    · obtain ⟨k, rfl⟩ : ∃ k : Nat, i = k := ⟨i.toNat, by omega⟩
      have hk : k < 8 := by omega
      have hpl := primeAt_lt k (by omega)
      have E := Lib.hid (show startN (k : Int) = root2 (primeAt k) by rw [start_root k hk]; unfold startN; rw [if_neg (by omega)]; rfl)
      have HP := Lib.hid (prime_any k (by omega) w)
      generalize primeAt k = p at hpl E HP
      go_enter Tryd.func22, Tryd.ntmps22
      go_wp2_with fail
      refine HP.out.mono ?_
      rintro e w' ⟨rfl, rfl⟩
      go_wp2_with fail
      refine (root2_any p hpl w).mono ?_
      rintro e w' ⟨rfl, rfl⟩
      go_wp2
      go_ret
      exact ⟨ret_int (by rw [E.out]), rfl⟩
theorem refConstant_any (i : Int) (w : World) : Calls Tryd.prog 24 #[.int .i64 i] w fun e w' => e = .returned (.int .u32 (constN i : Int)) ∧ w = w' := by
  by_cases h0 : i < 0
  · have E := Lib.hid (show constN i = 0 by unfold constN; rw [if_pos (.inl h0)])
    go_enter Tryd.func24, Tryd.ntmps24
    go_wp2
    go_ret
    exact ⟨ret_int (by rw [E.out]; rfl), rfl⟩
  · by_cases h8 : 63 < i
    · have E := Lib.hid (show constN i = 0 by unfold constN; rw [if_pos (.inr (by omega))])
      have h0' : 0 ≤ i := by omega
      go_enter Tryd.func24, Tryd.ntmps24
      go_wp2
      go_ret
      exact ⟨ret_int (by rw [E.out]; rfl), rfl⟩
    · obtain ⟨k, rfl⟩ : ∃ k : Nat, i = k := ⟨i.toNat, by omega⟩
      have hk : k < 64 := by omega
      have hpl := primeAt_lt k (by omega)
      have E := Lib.hid (show constN (k : Int) = root3 (primeAt k) by rw [const_root k hk]; unfold constN; rw [if_neg (by omega)]; rfl)
      have HP := Lib.hid (prime_any k (by omega) w)
      generalize primeAt k = p at hpl E HP
      go_enter Tryd.func24, Tryd.ntmps24
      go_wp2_with fail
      refine HP.out.mono ?_
      rintro e w' ⟨rfl, rfl⟩
      go_wp2_with fail
      refine (root3_any p hpl w).mono ?_
      rintro e w' ⟨rfl, rfl⟩
      go_wp2
      go_ret
      exact ⟨ret_int (by rw [E.out]), rfl⟩
end Go.Proofs.YtggijgclnnlfmaaDoor

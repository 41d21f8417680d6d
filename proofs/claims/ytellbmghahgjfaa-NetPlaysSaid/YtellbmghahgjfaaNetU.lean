/-
  The walk of the laws' much.
-/
import Derived.Test.YtellbmghahgjfaaNetT
namespace Go.Proofs.Ytellbmghahgjfaa
open Go.RowKit
set_option linter.unusedVariables false
set_option linter.unusedSimpArgs false
set_option maxRecDepth 100000
namespace NA
/-- What much answers. -/
def MuchEnd (L : List St) (w : World) (e : Ending) (w' : World) : Prop := ∃ r, e = .returned (.bool r) ∧ w = w' ∧ (r = false → Few L)
set_option maxHeartbeats 4000000 in
theorem much_any (v : Value) (L : List St) (w : World) (hs : Sts w v L) :
    Calls Try.prog 12 #[v] w (MuchEnd L w) := by
  obtain ⟨A, c, rfl, hc, ha⟩ := hs
  have Ha := Lib.hid ha
  clear ha
  go_enter Try.func12, Try.ntmps12
  go_wp2
  go_loopw [3, 4, 5] (fun x y z wr => ∃ k : Nat, k ≤ L.length ∧ k ≤ 61 ∧ z = .int .i64 (k : Int) ∧ x = .int .i64 (mcS L k : Int) ∧ y = .int .i64 (six L k : Int) ∧ mcS L k ≤ k * 20001 ∧ six L k ≤ k ∧ (∀ j (h : j < L.length), j < k → L[j].kind = 6 → L[j].b.length ≤ 100) ∧ w = wr) (fun _ _ z _ => L.length - (intOf z).toNat)
  case atStart => exact ⟨0, Nat.zero_le _, Nat.zero_le _, rfl, by rw [mcS_zero]; rfl, by rw [six_zero]; rfl, by rw [mcS_zero]; omega, by rw [six_zero]; omega, fun j _ h => absurd h (by omega), rfl⟩
  case round =>
    obtain ⟨k, hk, hkm, rfl, rfl, rfl, hm, h6, hj6, rfl⟩ := hrel
    have HJ := Lib.hid hj6
    clear hj6
    by_cases hlt : k < L.length
    · by_cases hle : k ≤ 60
      · obtain ⟨bb, o, rfl, hx⟩ := Ha.out (by omega)
        obtain ⟨hcs, h0⟩ := hx k hlt
        obtain ⟨hS0, _, _, hS3⟩ := hcs
        obtain ⟨A4, c4, e4⟩ : ∃ A4 c4, L[k].bv = .slice A4 L[k].b.length c4 := by obtain ⟨A4, c4, e4, _⟩ := h0.b; exact ⟨A4, c4, e4⟩
        rw [e4] at hS3
        have hsu := mcS_succ L k hlt
        have h6u := six_succ L k hlt
        have hjn : (L[k].kind = 6 → L[k].b.length ≤ 100) → (∀ j (h : j < L.length), j < k + 1 → L[j].kind = 6 → L[j].b.length ≤ 100) := by
          intro h j hj hjk
          rcases Nat.lt_or_ge j k with h1 | h1
          · exact HJ.out j hj h1
          · obtain rfl : j = k := by omega
            exact h
        clear hx h0 
        generalize L[k].b.length = lb at *
        generalize L[k].kind = kd at *
        have HSU := Lib.hid hsu
        have H6U := Lib.hid h6u
        have HJN := Lib.hid hjn
        clear hsu h6u hjn e4
        have hkI : (k : Int) < (L.length : Int) := by omega
        have hkJ : (k : Int) ≤ 60 := by omega
        have hk0 : (0 : Int) ≤ (k : Int) := by omega
        have hmn : mn lb ≤ 20001 := by unfold mn; split <;> omega
        have hmi : min (lb : Int) 20001 = (mn lb : Int) := by unfold mn; split <;> omega
        have w1 : IntKind.i64.wrap ((mcS L k : Int) + (mn lb : Int)) = (mcS L k : Int) + (mn lb : Int) := by rw [IntKind.wrap_i64] <;> omega
        have w2 : IntKind.i64.wrap ((six L k : Int) + 1) = (six L k : Int) + 1 := by rw [IntKind.wrap_i64] <;> omega
        by_cases hk6 : kd = 6
        · subst hk6
          by_cases h100 : lb ≤ 100
          · have h100I : ¬ (100 : Int) < (lb : Int) := by omega
            have hmI : (lb : Int) ≤ 20001 := by omega
            have hm2 : (mn lb : Int) = (lb : Int) := by unfold mn; split <;> omega
            rw [hm2] at w1
            go_wp2
            go_roundw
            case rel =>
              exact ⟨k + 1, by omega, by omega, by go_num, by rw [HSU.out]; push_cast; rw [hm2, ← w1], by rw [H6U.out]; push_cast; rw [← w2], by rw [HSU.out]; omega, by rw [H6U.out]; simp; omega, HJN.out fun _ => h100, trivial⟩
            case measure => simp [intOf]; omega
          · have h100I : (100 : Int) < (lb : Int) := by omega
            go_wp2
            all_goals
              go_ret
              exact ⟨_, rfl, rfl, fun h => by simp at h⟩
        · rcases Nat.lt_or_ge 20001 lb with hbig | hsm
          · have hmI : ¬ (lb : Int) ≤ 20001 := by omega
            have hm2 : (mn lb : Int) = 20001 := by unfold mn; split <;> omega
            rw [hm2] at w1
            go_wp2
            go_roundw
            case rel =>
              exact ⟨k + 1, by omega, by omega, by go_num, by rw [HSU.out]; push_cast; rw [hm2, ← w1], by rw [H6U.out, if_neg hk6]; rfl, by rw [HSU.out]; omega, by rw [H6U.out, if_neg hk6]; omega, HJN.out fun h => absurd h hk6, trivial⟩
            case measure => simp [intOf]; omega
          · have hmI : (lb : Int) ≤ 20001 := by omega
            have hm2 : (mn lb : Int) = (lb : Int) := by unfold mn; split <;> omega
            rw [hm2] at w1
            go_wp2
            go_roundw
            case rel =>
              exact ⟨k + 1, by omega, by omega, by go_num, by rw [HSU.out]; push_cast; rw [hm2, ← w1], by rw [H6U.out, if_neg hk6]; rfl, by rw [HSU.out]; omega, by rw [H6U.out, if_neg hk6]; omega, HJN.out fun h => absurd h hk6, trivial⟩
            case measure => simp [intOf]; omega
      · have hle' : ¬ (k : Int) ≤ 60 := by omega
        have hnum : 60 < (L.length : Int) := by omega
        go_wp2
        all_goals
          go_ret
          exact ⟨_, rfl, rfl, fun h => by simp at h⟩
    · obtain rfl : k = L.length := by omega
      go_wp2
      all_goals
        go_ret
        refine ⟨_, rfl, rfl, fun h => ?_⟩
        first
        | cases h
        | (simp only [Bool.or_eq_false_iff, decide_eq_false_iff_not] at h
           exact few_of (by omega) (by omega) (by omega) fun j hj => HJ.out j hj hj)
end NA
end Go.Proofs.Ytellbmghahgjfaa

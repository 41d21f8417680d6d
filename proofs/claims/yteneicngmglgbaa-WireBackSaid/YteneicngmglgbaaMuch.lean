/-
  The walk of the document's Much.
-/
import Derived.Test.YteneicngmglgbaaJoin
namespace Go.Proofs.Yteneicngmglgbaa
open Go.RowKit
set_option linter.unusedVariables false

/-- How much Much has counted of the first k lists. -/
def mc (ls : List (List UInt8)) (k : Nat) : Nat := ls.length + ((ls.take k).map (fun x => min x.length 9001)).sum
theorem mc_zero (ls : List (List UInt8)) : mc ls 0 = ls.length := by simp [mc]
theorem mc_succ (ls : List (List UInt8)) (k : Nat) (h : k < ls.length) : mc ls (k + 1) = mc ls k + min ls[k].length 9001 := by
  unfold mc
  rw [List.take_succ_eq_append_getElem h, List.map_append, List.sum_append]; simp; omega
theorem sum_le : ∀ (ls : List (List UInt8)), (ls.map (fun x => min x.length 9001)).sum ≤ ls.flatten.length
  | [] => by simp
  | l :: ls => by
    have := sum_le ls
    simp only [List.map_cons, List.sum_cons, List.flatten_cons, List.length_append]; omega
theorem sum_eq : ∀ (ls : List (List UInt8)), (ls.map (fun x => min x.length 9001)).sum ≤ 9000 → (ls.map (fun x => min x.length 9001)).sum = ls.flatten.length
  | [], _ => by simp
  | l :: ls, h => by
    simp only [List.map_cons, List.sum_cons] at h
    have := sum_eq ls (by omega)
    simp only [List.map_cons, List.sum_cons, List.flatten_cons, List.length_append]; omega
theorem flatten_take (ls : List (List UInt8)) (k : Nat) : (ls.take k).flatten.length ≤ ls.flatten.length := by
  have h2 : ls.flatten = (ls.take k).flatten ++ (ls.drop k).flatten := by rw [← List.flatten_append, List.take_append_drop]
  rw [h2, List.length_append]; omega
/-- Counted far enough. -/
theorem mc_much (ls : List (List UInt8)) (k : Nat) (h : 9000 < mc ls k) : 9000 < ls.length + ls.flatten.length := by
  have h1 := sum_le (ls.take k)
  have h2 := flatten_take ls k
  unfold mc at h; omega
theorem mc_few (ls : List (List UInt8)) (h : mc ls ls.length ≤ 9000) : ls.length + ls.flatten.length ≤ 9000 := by
  unfold mc at h
  rw [List.take_length] at h
  have := sum_eq ls (by omega)
  omega

set_option maxHeartbeats 400000 in
theorem much_any (v : Value) (ls : List (List UInt8)) (w : World) (b : Bool) (hs : Sls w v ls) (hn : ls.length ≤ 9223372036854775807) (hb : b = decide (9000 < ls.length + ls.flatten.length)) :
    Calls Try.prog 16 #[v, .int .i64 9000] w fun e w' => e = .returned (.bool b) ∧ w = w' := by
  have Hb := Lib.hid hb
  clear hb
  obtain ⟨A, c, rfl, hc, ha⟩ := hs
  have Ha := Lib.hid ha
  clear ha
  go_enter Try.func16, Try.ntmps16
  go_wp2
  go_loop [5, 6] (fun x z => ∃ k : Nat, k ≤ ls.length ∧ z = .int .i64 (k : Int) ∧ x = .int .i64 (mc ls k : Int) ∧ (mc ls k ≤ 18001 ∨ k = 0)) (fun _ z => ls.length - (intOf z).toNat)
  case atStart => exact ⟨0, Nat.zero_le _, rfl, by rw [mc_zero], .inr rfl⟩
  case round =>
    obtain ⟨k, hk, rfl, rfl, hm⟩ := hrel
    by_cases hlt : k < ls.length
    · by_cases hmc : mc ls k ≤ 9000
      · obtain ⟨bb, o, rfl, hx⟩ := Ha.out (by omega)
        obtain ⟨u, hu, hsu⟩ := hx k hlt
        obtain ⟨A2, c2, rfl, _, _⟩ := hsu
        have hs := Lib.hid (mc_succ ls k hlt)
        have hmi : (mc ls k : Int) ≤ 9000 := by omega
        clear hx hm
        go_wp2
        go_round
        case rel =>
          refine ⟨k + 1, by omega, by go_num, ?_, ?_⟩
          · rw [hs.out]
            congr 1
            split <;> omega
          · left
            rw [hs.out]; omega
        case measure => simp [intOf]; omega
      · have hmi : ¬ (mc ls k : Int) ≤ 9000 := by omega
        have Hm := Lib.hid (mc_much ls k (by omega))
        go_wp2
        go_ret
        exact ⟨ret_bool (by rw [Hb.out]; exact (decide_eq_true Hm.out).symm), rfl⟩
    · obtain rfl : k = ls.length := by omega
      have He := Lib.hid (show decide ((9000 : Int) < (mc ls ls.length : Int)) = b by
        rw [Hb.out]
        by_cases h : mc ls ls.length ≤ 9000
        · have := mc_few ls h
          rw [decide_eq_false (by omega), decide_eq_false (by omega)]
        · have := mc_much ls ls.length (by omega)
          rw [decide_eq_true (by omega), decide_eq_true (by omega)])
      go_wp2
      go_ret
      exact ⟨ret_bool He.out, rfl⟩
end Go.Proofs.Yteneicngmglgbaa

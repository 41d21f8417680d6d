/-
  slices.Equal at dots.
-/
import Derived.Test.YtldfaaahmpncbaaGreatCtxRefA
namespace Go.Proofs.YtldfaaahmpncbaaGreat
open Go.RowKit
open CtxM
set_option linter.unusedVariables false
set_option linter.unusedSimpArgs false

set_option maxHeartbeats 1000000 in
theorem equal_any (v u : Value) (L M : List Dt) (w : World) (hL : Sd w v L) (hM : Sd w u M) (hl : L.length ≤ 100000) (hm : M.length ≤ 100000) :
    Calls Tryz.prog 78 #[v, u] w fun e w' => e = .returned (.bool (decide (L = M))) ∧ ∃ n, w' = w.drewN n := by
  have hfo : Tryz.prog.follows .mixedOrders = true := by kernel_rfl
  have HL := Lib.hid hL
  have HM := Lib.hid hM
  obtain ⟨A, c, rfl, _, _⟩ := hL
  obtain ⟨B, c', rfl, _, _⟩ := hM
  have hdq : ∀ (x y : Dt) (w : World), (Op.equalIn 10000 41 (.agg #[.int .i64 x.1, .int .u64 (x.2 : Int)]) (.agg #[.int .i64 y.1, .int .u64 (y.2 : Int)])).run Tryz.prog w = .ok (decide (x = y)) w := dot_eq
  obtain ⟨Q, hQ⟩ : ∃ Q : Bool, Q = decide (L = M) := ⟨_, rfl⟩
  have HQ := Lib.hid hQ
  rw [← hQ]
  clear hQ
  by_cases hlen : L.length = M.length
  · have hb : ((L.length : Int) != (M.length : Int)) = false := by rw [hlen]; simp
    have HLen := Lib.hid hlen
    clear hlen
    go_enter Tryz.func78, Tryz.ntmps78
    go_wp2
    go_loopw [13] (fun z wr => ∃ i : Nat, z = .int .i64 (i : Int) ∧ i ≤ L.length ∧ (∀ k (h : k < L.length), k < i → L[k] = M[k]'(by rw [← HLen.out]; exact h)) ∧ ∃ n, wr = w.drewN n) (fun z _ => L.length - (intOf z).toNat)
    case atStart => exact ⟨0, rfl, Nat.zero_le _, fun k _ h => absurd h (by omega), 0, rfl⟩
    case round =>
      obtain ⟨i, rfl, hi, hall, n, rfl⟩ := hrel
      have HA := Lib.hid hall
      clear hall
      by_cases hlt : i < L.length
      · obtain ⟨x, hx⟩ : ∃ x, L[i] = x := ⟨_, rfl⟩
        obtain ⟨y, hy⟩ : ∃ y, M[i]'(by rw [← HLen.out]; exact hlt) = y := ⟨_, rfl⟩
        obtain ⟨b, o, rfl, k0, k1⟩ := HL.out.at_ i hlt x hx
        obtain ⟨b', o', rfl, k2, k3⟩ := HM.out.at_ i (by rw [← HLen.out]; exact hlt) y hy
        have hde := hdq x y
        obtain ⟨q, hq⟩ : ∃ q : Bool, q = decide (x = y) := ⟨_, rfl⟩
        rw [← hq] at hde
        have Hq := Lib.hid hq
        have HX := Lib.hid hx
        have HY := Lib.hid hy
        have hlt2 : (i : Int) < (M.length : Int) := by have := HLen.out; omega
        clear hx hy hq hdq
        cases q
        · have HLt := Lib.hid hlt
          go_wp2_with fail
          go_quiet (fail)
          go_wp2
          go_ret
          refine ⟨ret_bool ?_, n + nq, by first | rfl | rw [World.drewN_drewN]⟩
          rw [HQ.out, eq_comm, decide_eq_false_iff_not]
          intro h
          have e : ¬ x = y := of_decide_eq_false Hq.out.symm
          exact e (by rw [← HX.out, ← HY.out]; simp only [h])
        · go_wp2_with fail
          go_quiet (fail)
          go_wp2
          refine ⟨⟨i + 1, by go_num, by omega, fun k hk hki => ?_, n + nq, by first | rfl | rw [World.drewN_drewN]⟩, by simp [intOf]; omega⟩
          rcases Nat.lt_or_ge k i with h | h
          · exact HA.out k hk h
          · obtain rfl : k = i := by omega
            have e : x = y := of_decide_eq_true Hq.out.symm
            rw [HX.out, HY.out, e]
      · obtain rfl : i = L.length := by omega
        clear hdq
        go_wp2
        go_ret
        refine ⟨ret_bool ?_, n, rfl⟩
        rw [HQ.out, eq_comm, decide_eq_true_iff]
        exact List.ext_getElem HLen.out fun k h1 h2 => HA.out k h1 h1
  · have hb : ((L.length : Int) != (M.length : Int)) = true := by rw [bne_iff_ne]; omega
    have HLen := Lib.hid hlen
    clear hlen hdq
    go_enter Tryz.func78, Tryz.ntmps78
    go_wp2
    go_ret
    refine ⟨ret_bool ?_, 0, rfl⟩
    rw [HQ.out, eq_comm, decide_eq_false_iff_not]
    intro h
    exact HLen.out (by rw [h])
end Go.Proofs.YtldfaaahmpncbaaGreat

/-
  The walks of the document's May, Less, Has, SameDots.
-/
import Derived.Test.YtoglhpcboonpeaaCtxNew
import Derived.Test.YtoglhpcboonpeaaCtxEq
namespace Go.Proofs.Ytoglhpcboonpeaa
open Go.RowKit
open CtxM
set_option linter.unusedVariables false
set_option linter.unusedSimpArgs false
set_option maxRecDepth 20000

theorem refMay_any (d : Dt) (w : World) : Calls Try.prog 12 #[.agg #[.int .i64 d.1, .int .u64 (d.2 : Int)]] w fun e w' => e = .returned (.bool (decide (May d))) ∧ Grw w w' := by
  have hg := (Grw.refl w).alloc (.cells #[.int .i64 d.1, .int .u64 (d.2 : Int)] 35)
  go_enter Try.func12, Try.ntmps12
  by_cases h1 : 1 ≤ d.1
  · by_cases h2 : d.1 ≤ 16
    · by_cases h3 : 1 ≤ d.2
      · have k3 : (1 : Int) ≤ (d.2 : Int) := by omega
        by_cases h4 : d.2 ≤ top
        · have k4 : (d.2 : Int) ≤ 4611686018427387904 := by unfold top at h4; omega
          go_wp2
          go_ret
          exact ⟨ret_bool (by rw [eq_comm, decide_eq_true_iff]; exact ⟨h1, h2, h3, h4⟩), hg⟩
        · have k4 : ¬ (d.2 : Int) ≤ 4611686018427387904 := by unfold top at h4; omega
          have H := Lib.hid h4
          clear h4
          go_wp2
          go_ret
          exact ⟨ret_bool (by rw [eq_comm, decide_eq_false_iff_not]; exact fun h => H.out h.2.2.2), hg⟩
      · have k3 : ¬ (1 : Int) ≤ (d.2 : Int) := by omega
        have H := Lib.hid h3
        clear h3
        go_wp2
        go_ret
        exact ⟨ret_bool (by rw [eq_comm, decide_eq_false_iff_not]; exact fun h => H.out h.2.2.1), hg⟩
    · have H := Lib.hid h2
      go_wp2
      go_ret
      exact ⟨ret_bool (by rw [eq_comm, decide_eq_false_iff_not]; exact fun h => by have h1 := H.out; have h2 := h.2.1; omega), hg⟩
  · have H := Lib.hid h1
    go_wp2
    go_ret
    exact ⟨ret_bool (by rw [eq_comm, decide_eq_false_iff_not]; exact fun h => by have h1 := H.out; have h2 := h.1; omega), hg⟩
theorem refLess_any (a b : Dt) (w : World) : Calls Try.prog 19 #[.agg #[.int .i64 a.1, .int .u64 (a.2 : Int)], .agg #[.int .i64 b.1, .int .u64 (b.2 : Int)]] w fun e w' => e = .returned (.bool (decide (Lt a b))) ∧ Grw w w' := by
  have hg := ((Grw.refl w).alloc (.cells #[.int .i64 a.1, .int .u64 (a.2 : Int)] 35)).alloc (.cells #[.int .i64 b.1, .int .u64 (b.2 : Int)] 35)
  obtain ⟨q, hq⟩ : ∃ q : Bool, q = decide (Lt a b) := ⟨_, rfl⟩
  have HQ := Lib.hid hq
  rw [← hq]
  clear hq
  go_enter Try.func19, Try.ntmps19
  by_cases h1 : a.1 < b.1
  · go_wp2
    go_ret
    exact ⟨ret_bool (by rw [HQ.out, eq_comm, decide_eq_true_iff]; exact .inl h1), hg⟩
  · have hb1 : decide (a.1 < b.1) = false := decide_eq_false h1
    by_cases h2 : a.1 = b.1
    · have hb2 : (a.1 == b.1) = true := by rw [beq_iff_eq]; exact h2
      have H2 := Lib.hid h2
      clear h2
      have H1 := Lib.hid h1
      clear h1
      go_wp2
      go_ret
      refine ⟨ret_bool ?_, hg⟩
      rw [HQ.out, Bool.eq_iff_iff, decide_eq_true_iff, decide_eq_true_iff]
      have := H2.out
      have := H1.out
      unfold Lt
      omega
    · have hb2 : (a.1 == b.1) = false := by rw [beq_eq_false_iff_ne]; exact h2
      have H2 := Lib.hid h2
      clear h2
      have H1 := Lib.hid h1
      clear h1
      go_wp2
      go_ret
      refine ⟨ret_bool ?_, hg⟩
      rw [HQ.out, eq_comm, decide_eq_false_iff_not]
      have := H2.out
      have := H1.out
      unfold Lt
      omega

theorem Sx.atk {w : World} {g : Nat} {v : Value} {V : List Nat} {X : List Dt} (h : Sx w g v V X) (k : Nat) (h2 : k < 16) : w.cell? ⟨g, k, none⟩ = some (.int .u64 (CtxM.at_ V ((k : Int) + 1) : Int)) := by
  rw [h.at_ k h2]
  unfold CtxM.at_
  rw [show ((k : Int) + 1 - 1).toNat = k by omega, List.getD_eq_getElem?_getD, List.getElem?_eq_getElem (by rw [h.fit.len]; exact h2)]
  rfl
/-- A dot of a slice, as its cells say it. -/
theorem Sd.at_ {w : World} {A : Option Addr} {n c : Nat} {L : List Dt} (h : Sd w (.slice A n c) L) (k : Nat) (hk : k < L.length) (d : Dt) (hd : L[k] = d) : ∃ b o, A = some ⟨b, o, none⟩ ∧ w.cell? ⟨b, o + k * 2, none⟩ = some (.int .i64 d.1) ∧ w.cell? ⟨b, o + k * 2 + 1, none⟩ = some (.int .u64 (d.2 : Int)) := by
  obtain ⟨A', c', e, hc, ha⟩ := h
  injection e with e1 e2 e3
  subst e1
  obtain ⟨b, o, rfl, hx⟩ := ha (by omega)
  exact ⟨b, o, rfl, by rw [← hd]; exact (hx k hk).1, by rw [← hd]; exact (hx k hk).2⟩

set_option maxHeartbeats 1000000 in
theorem refHas_any (g : Nat) (v : Value) (V : List Nat) (X : List Dt) (d : Dt) (w : World) (hc : Sx w g v V X) (hl : X.length ≤ 100000) :
    Calls Try.prog 17 #[.pointer (some ⟨g, 0, none⟩), .agg #[.int .i64 d.1, .int .u64 (d.2 : Int)]] w fun e w' => e = .returned (.bool (decide (In V X d))) ∧ Grw w w' := by
  have hm := fun W => refMay_any d W
  have hfo : Try.prog.follows .mixedOrders = true := by kernel_rfl
  have Hg := (Grw.refl w).alloc (.cells #[.int .i64 d.1, .int .u64 (d.2 : Int)] 35)
  have hB := Blk.new w 35 #[.int .i64 d.1, .int .u64 (d.2 : Int)]
  by_cases hM : May d
  · rw [decide_eq_true hM] at hm
    have HC := Lib.hid hc
    obtain ⟨A, c, rfl, hcc, _⟩ := hc.row
    have hdq := fun x w => dot_eq x d w
    have HM := Lib.hid hM
    clear hc hM
    go_enter Try.func17, Try.ntmps17
    go_wp2_with (go_at_call 12; refine (hm _).mono ?_; rintro e w1 ⟨rfl, hg1⟩)
    have Hg1 := Hg.trans hg1
    have hB1 := hB.below hg1.below hB.lt
    clear hm hB hg1 Hg
    go_loopw [5] (fun z wr => ∃ i : Nat, z = .int .i64 (i : Int) ∧ i ≤ X.length ∧ (∀ k (h : k < X.length), k < i → X[k] ≠ d) ∧ Grw w wr ∧ Blk wr w.heap.size 35 #[.int .i64 d.1, .int .u64 (d.2 : Int)]) (fun z _ => X.length - (intOf z).toNat)
    case atStart => exact ⟨0, rfl, Nat.zero_le _, fun k _ h => absurd h (by omega), Hg1, hB1⟩
    case round =>
      clear Hg1 hB1
      obtain ⟨i, rfl, hi, hall, hg, hBr⟩ := hrel
      have HA := Lib.hid hall
      clear hall
      have hcr := HC.out.below hg.below
      have hx := hcr.extra
      have q0 : wr.cell? ⟨w.heap.size, 0, none⟩ = some (.int .i64 d.1) := by rw [hBr.cell]; rfl
      have q1 : wr.cell? ⟨w.heap.size, 1, none⟩ = some (.int .u64 (d.2 : Int)) := by rw [hBr.cell]; rfl
      by_cases hlt : i < X.length
      · obtain ⟨x, hxx⟩ : ∃ x, X[i] = x := ⟨_, rfl⟩
        obtain ⟨b, o, rfl, k0, k1⟩ := hcr.row.at_ i hlt x hxx
        have HX := Lib.hid hxx
        have hde := hdq x
        obtain ⟨q, hq⟩ : ∃ q : Bool, q = decide (x = d) := ⟨_, rfl⟩
        rw [← hq] at hde
        have HQ := Lib.hid hq
        have HL := Lib.hid hlt
        clear hxx hq hdq hcr
        cases q
        · go_wp2_with fail
          go_quiet (fail)
          go_wp2
          refine ⟨⟨i + 1, by go_num, by omega, fun k hk hki => ?_, hg.drewN _, hBr⟩, by simp [intOf]; omega⟩
          rcases Nat.lt_or_ge k i with h | h
          · exact HA.out k hk h
          · obtain rfl : k = i := by omega
            rw [HX.out]
            exact of_decide_eq_false HQ.out.symm
        · go_wp2_with fail
          go_quiet (fail)
          go_wp2
          go_ret
          refine ⟨ret_bool ?_, hg.drewN _⟩
          rw [eq_comm, decide_eq_true_iff]
          have e : x = d := of_decide_eq_true HQ.out.symm
          exact ⟨HM.out, .inl (by rw [← e, ← HX.out]; exact List.getElem_mem _)⟩
      · obtain rfl : i = X.length := by omega
        obtain ⟨k, hk⟩ : ∃ k : Nat, d.1 = (k : Int) + 1 := ⟨(d.1 - 1).toNat, by have := HM.out.1; omega⟩
        have hk16 : k < 16 := by have := HM.out.2.1; omega
        have q5 := hcr.atk k hk16
        have HK := Lib.hid hk
        rw [hk] at q0
        clear hk hdq hcr
        have HE := Lib.hid (show at_ V ((k : Int) + 1) = at_ V ((k : Int) + 1) from rfl)
        obtain ⟨m, hm⟩ : ∃ m, m = at_ V ((k : Int) + 1) := ⟨_, rfl⟩
        rw [← hm] at q5
        have HMM := Lib.hid hm
        clear hm HE
        go_wp2_with fail
        go_quiet (fail)
        go_wp2
        go_ret
        refine ⟨ret_bool ?_, hg.drewN _⟩
        rw [Bool.eq_iff_iff, decide_eq_true_iff, decide_eq_true_iff]
        have e1 := HMM.out
        have e2 := HK.out
        constructor
        · intro h
          exact ⟨HM.out, .inr (by rw [e2, ← e1]; omega)⟩
        · rintro ⟨_, h | h⟩
          · obtain ⟨j, hj, e⟩ := List.getElem_of_mem h
            exact absurd e (HA.out j hj hj)
          · rw [e2, ← e1] at h; omega
  · rw [decide_eq_false hM] at hm
    have HM := Lib.hid hM
    clear hc hM
    go_enter Try.func17, Try.ntmps17
    go_wp2_with (go_at_call 12; refine (hm _).mono ?_; rintro e w1 ⟨rfl, hg1⟩)
    go_ret
    exact ⟨ret_bool (by rw [eq_comm, decide_eq_false_iff_not]; exact fun h => HM.out h.1), Hg.trans hg1⟩

set_option maxHeartbeats 1000000 in
theorem sameDots_any (v u : Value) (L M : List Dt) (w : World) (hL : Sd w v L) (hM : Sd w u M) (hl : L.length ≤ 100000) (hm : M.length ≤ 100000) :
    Calls Try.prog 41 #[v, u] w fun e w' => e = .returned (.bool (decide (L = M))) ∧ ∃ n, w' = w.drewN n := by
  have hfo : Try.prog.follows .mixedOrders = true := by kernel_rfl
  have HL := Lib.hid hL
  have HM := Lib.hid hM
  obtain ⟨A, c, rfl, _, _⟩ := hL
  obtain ⟨B, c', rfl, _, _⟩ := hM
  have hdq : ∀ (x y : Dt) (w : World), (Op.equalIn 10000 35 (.agg #[.int .i64 x.1, .int .u64 (x.2 : Int)]) (.agg #[.int .i64 y.1, .int .u64 (y.2 : Int)])).run Try.prog w = .ok (decide (x = y)) w := dot_eq
  obtain ⟨Q, hQ⟩ : ∃ Q : Bool, Q = decide (L = M) := ⟨_, rfl⟩
  have HQ := Lib.hid hQ
  rw [← hQ]
  clear hQ
  by_cases hlen : L.length = M.length
  · have hb : ((L.length : Int) != (M.length : Int)) = false := by rw [hlen]; simp
    have HLen := Lib.hid hlen
    clear hlen
    go_enter Try.func41, Try.ntmps41
    go_wp2
    go_loopw [5] (fun z wr => ∃ i : Nat, z = .int .i64 (i : Int) ∧ i ≤ L.length ∧ (∀ k (h : k < L.length), k < i → L[k] = M[k]'(by rw [← HLen.out]; exact h)) ∧ ∃ n, wr = w.drewN n) (fun z _ => L.length - (intOf z).toNat)
    case atStart => exact ⟨0, rfl, Nat.zero_le _, fun k _ h => absurd h (by omega), 0, rfl⟩
    case round =>
      obtain ⟨i, rfl, hi, hall, n, rfl⟩ := hrel
      have HA := Lib.hid hall
      clear hall
      by_cases hlt : i < L.length
      · obtain ⟨x, hx⟩ : ∃ x, L[i] = x := ⟨_, rfl⟩
        obtain ⟨y, hy⟩ : ∃ y, M[i]'(by rw [← HLen.out]; exact hlt) = y := ⟨_, rfl⟩
        obtain ⟨b, o, rfl, k0, k1⟩ := HL.out.at_ i hlt x hx
        obtain ⟨b', o', rfl, k2, k3⟩ := HM.out.at_ i (by rw [← HLen.out]; exact hlt) y hy
        have hde := hdq x y
        obtain ⟨q, hq⟩ : ∃ q : Bool, q = decide (x = y) := ⟨_, rfl⟩
        rw [← hq] at hde
        have Hq := Lib.hid hq
        have HX := Lib.hid hx
        have HY := Lib.hid hy
        have hlt2 : (i : Int) < (M.length : Int) := by have := HLen.out; omega
        clear hx hy hq hdq
        cases q
        · have HLt := Lib.hid hlt
          go_wp2_with fail
          go_quiet (fail)
          go_wp2
          go_ret
          refine ⟨ret_bool ?_, n + nq, by first | rfl | rw [World.drewN_drewN]⟩
          rw [HQ.out, eq_comm, decide_eq_false_iff_not]
          intro h
          have e : ¬ x = y := of_decide_eq_false Hq.out.symm
          exact e (by rw [← HX.out, ← HY.out]; simp only [h])
        · go_wp2_with fail
          go_quiet (fail)
          go_wp2
          refine ⟨⟨i + 1, by go_num, by omega, fun k hk hki => ?_, n + nq, by first | rfl | rw [World.drewN_drewN]⟩, by simp [intOf]; omega⟩
          rcases Nat.lt_or_ge k i with h | h
          · exact HA.out k hk h
          · obtain rfl : k = i := by omega
            have e : x = y := of_decide_eq_true Hq.out.symm
            rw [HX.out, HY.out, e]
      · obtain rfl : i = L.length := by omega
        clear hdq
        go_wp2
        go_ret
        refine ⟨ret_bool ?_, n, rfl⟩
        rw [HQ.out, eq_comm, decide_eq_true_iff]
        exact List.ext_getElem HLen.out fun k h1 h2 => HA.out k h1 h1
  · have hb : ((L.length : Int) != (M.length : Int)) = true := by rw [bne_iff_ne]; omega
    have HLen := Lib.hid hlen
    clear hlen hdq
    go_enter Try.func41, Try.ntmps41
    go_wp2
    go_ret
    refine ⟨ret_bool ?_, 0, rfl⟩
    rw [HQ.out, eq_comm, decide_eq_false_iff_not]
    intro h
    exact HLen.out (by rw [h])
end Go.Proofs.Ytoglhpcboonpeaa

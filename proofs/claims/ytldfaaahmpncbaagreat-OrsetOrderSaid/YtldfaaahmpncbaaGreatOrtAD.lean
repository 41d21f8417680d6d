/-
  The document's SameKeys and SameItems; the contract of two contexts compared.
-/
import Derived.Test.YtldfaaahmpncbaaGreatOrtK
import Derived.Test.YtldfaaahmpncbaaGreatCtxSame
namespace Go.Proofs.YtldfaaahmpncbaaGreat
open Go.RowKit
open CtxM
set_option linter.unusedVariables false
set_option linter.unusedSimpArgs false
set_option maxRecDepth 20000

set_option maxHeartbeats 1000000 in
theorem sameKeys_any (v u : Value) (L M : List Ky) (w : World) (hL : SdY w v L) (hM : SdY w u M) (hl : L.length ≤ 100000) (hm : M.length ≤ 100000) :
    Calls Tryz.prog 38 #[v, u] w fun e w' => e = .returned (.bool (decide (L = M))) ∧ ∃ n, w' = w.drewN n := by
  have hfo : Tryz.prog.follows .mixedOrders = true := by kernel_rfl
  have HL := Lib.hid hL
  have HM := Lib.hid hM
  obtain ⟨A, c, rfl, _, _⟩ := hL
  obtain ⟨B, c', rfl, _, _⟩ := hM
  have hdq : ∀ (x y : Ky) (w : World), (Op.equalIn 10000 39 (.agg #[.string x.1, .string x.2]) (.agg #[.string y.1, .string y.2])).run Tryz.prog w = .ok (decide (x = y)) w := keyq_eq
  obtain ⟨Q, hQ⟩ : ∃ Q : Bool, Q = decide (L = M) := ⟨_, rfl⟩
  have HQ := Lib.hid hQ
  rw [← hQ]
  clear hQ
  by_cases hlen : L.length = M.length
  · have hb : ((L.length : Int) != (M.length : Int)) = false := by rw [hlen]; simp
    have HLen := Lib.hid hlen
    clear hlen
    go_enter Tryz.func38, Tryz.ntmps38
    go_wp2
    go_loopw [5] (fun z wr => ∃ i : Nat, z = .int .i64 (i : Int) ∧ i ≤ L.length ∧ (∀ k (h : k < L.length), k < i → L[k] = M[k]'(by rw [← HLen.out]; exact h)) ∧ ∃ n, wr = w.drewN n) (fun z _ => L.length - (intOf z).toNat)
    case atStart => exact ⟨0, rfl, Nat.zero_le _, fun k _ h => absurd h (by omega), 0, rfl⟩
    case round =>
      obtain ⟨i, rfl, hi, hall, n, rfl⟩ := hrel
      have HA := Lib.hid hall
      clear hall
      by_cases hlt : i < L.length
      · obtain ⟨x, hx⟩ : ∃ x, L[i] = x := ⟨_, rfl⟩
        obtain ⟨y, hy⟩ : ∃ y, M[i]'(by rw [← HLen.out]; exact hlt) = y := ⟨_, rfl⟩
        obtain ⟨b, o, rfl, k0, k1⟩ := HL.out.at_ i hlt x hx
        obtain ⟨b', o', rfl, k2, k3⟩ := HM.out.at_ i (by rw [← HLen.out]; exact hlt) y hy
        have hde := hdq x y
        obtain ⟨q, hq⟩ : ∃ q : Bool, q = decide (x = y) := ⟨_, rfl⟩
        rw [← hq] at hde
        have Hq := Lib.hid hq
        have HX := Lib.hid hx
        have HY := Lib.hid hy
        have hlt2 : (i : Int) < (M.length : Int) := by have := HLen.out; omega
        clear hx hy hq hdq
        cases q
        · have HLt := Lib.hid hlt
          go_wp2_with fail
          go_quiet (fail)
          go_wp2
          go_ret
          refine ⟨ret_bool ?_, n + nq, by first | rfl | rw [World.drewN_drewN]⟩
          rw [HQ.out, eq_comm, decide_eq_false_iff_not]
          intro h
          have e : ¬ x = y := of_decide_eq_false Hq.out.symm
          exact e (by rw [← HX.out, ← HY.out]; simp only [h])
        · go_wp2_with fail
          go_quiet (fail)
          go_wp2
          refine ⟨⟨i + 1, by go_num, by omega, fun k hk hki => ?_, n + nq, by first | rfl | rw [World.drewN_drewN]⟩, by simp [intOf]; omega⟩
          rcases Nat.lt_or_ge k i with h | h
          · exact HA.out k hk h
          · obtain rfl : k = i := by omega
            have e : x = y := of_decide_eq_true Hq.out.symm
            rw [HX.out, HY.out, e]
      · obtain rfl : i = L.length := by omega
        clear hdq
        go_wp2
        go_ret
        refine ⟨ret_bool ?_, n, rfl⟩
        rw [HQ.out, eq_comm, decide_eq_true_iff]
        exact List.ext_getElem HLen.out fun k h1 h2 => HA.out k h1 h1
  · have hb : ((L.length : Int) != (M.length : Int)) = true := by rw [bne_iff_ne]; omega
    have HLen := Lib.hid hlen
    clear hlen hdq
    go_enter Tryz.func38, Tryz.ntmps38
    go_wp2
    go_ret
    refine ⟨ret_bool ?_, 0, rfl⟩
    rw [HQ.out, eq_comm, decide_eq_false_iff_not]
    intro h
    exact HLen.out (by rw [h])
set_option maxHeartbeats 1000000 in
theorem sameItems_any (v u : Value) (L M : List It) (w : World) (hL : SlK kIt w v L) (hM : SlK kIt w u M) (hl : L.length ≤ 100000) (hm : M.length ≤ 100000) :
    Calls Tryz.prog 17 #[v, u] w fun e w' => e = .returned (.bool (decide (L = M))) ∧ ∃ n, w' = w.drewN n := by
  have hfo : Tryz.prog.follows .mixedOrders = true := by kernel_rfl
  have HL := Lib.hid hL
  have HM := Lib.hid hM
  obtain ⟨A, c, rfl, _, _⟩ := hL
  obtain ⟨B, c', rfl, _, _⟩ := hM
  have hdq : ∀ (x y : It) (w : World), (Op.equalIn 10000 48 (.agg #[.int .i64 x.d.1, .int .u64 (x.d.2 : Int), .string x.t, .string x.v, .bool x.g]) (.agg #[.int .i64 y.d.1, .int .u64 (y.d.2 : Int), .string y.t, .string y.v, .bool y.g])).run Tryz.prog w = .ok (decide (x = y)) w := item_eq
  obtain ⟨Q, hQ⟩ : ∃ Q : Bool, Q = decide (L = M) := ⟨_, rfl⟩
  have HQ := Lib.hid hQ
  rw [← hQ]
  clear hQ
  by_cases hlen : L.length = M.length
  · have hb : ((L.length : Int) != (M.length : Int)) = false := by rw [hlen]; simp
    have HLen := Lib.hid hlen
    clear hlen
    go_enter Tryz.func17, Tryz.ntmps17
    go_wp2
    go_loopw [5] (fun z wr => ∃ i : Nat, z = .int .i64 (i : Int) ∧ i ≤ L.length ∧ (∀ k (h : k < L.length), k < i → L[k] = M[k]'(by rw [← HLen.out]; exact h)) ∧ ∃ n, wr = w.drewN n) (fun z _ => L.length - (intOf z).toNat)
    case atStart => exact ⟨0, rfl, Nat.zero_le _, fun k _ h => absurd h (by omega), 0, rfl⟩
    case round =>
      obtain ⟨i, rfl, hi, hall, n, rfl⟩ := hrel
      have HA := Lib.hid hall
      clear hall
      by_cases hlt : i < L.length
      · obtain ⟨x, hx⟩ : ∃ x, L[i] = x := ⟨_, rfl⟩
        obtain ⟨y, hy⟩ : ∃ y, M[i]'(by rw [← HLen.out]; exact hlt) = y := ⟨_, rfl⟩
        obtain ⟨b, o, rfl, k0, k1, m0, m1, m2⟩ := HL.out.item i hlt x hx
        obtain ⟨b', o', rfl, k2, k3, m3, m4, m5⟩ := HM.out.item i (by rw [← HLen.out]; exact hlt) y hy
        have hde := hdq x y
        obtain ⟨q, hq⟩ : ∃ q : Bool, q = decide (x = y) := ⟨_, rfl⟩
        rw [← hq] at hde
        have Hq := Lib.hid hq
        have HX := Lib.hid hx
        have HY := Lib.hid hy
        have hlt2 : (i : Int) < (M.length : Int) := by have := HLen.out; omega
        clear hx hy hq hdq
        cases q
        · have HLt := Lib.hid hlt
          go_wp2_with fail
          go_quiet (fail)
          go_wp2
          go_ret
          refine ⟨ret_bool ?_, n + nq, by first | rfl | rw [World.drewN_drewN]⟩
          rw [HQ.out, eq_comm, decide_eq_false_iff_not]
          intro h
          have e : ¬ x = y := of_decide_eq_false Hq.out.symm
          exact e (by rw [← HX.out, ← HY.out]; simp only [h])
        · go_wp2_with fail
          go_quiet (fail)
          go_wp2
          refine ⟨⟨i + 1, by go_num, by omega, fun k hk hki => ?_, n + nq, by first | rfl | rw [World.drewN_drewN]⟩, by simp [intOf]; omega⟩
          rcases Nat.lt_or_ge k i with h | h
          · exact HA.out k hk h
          · obtain rfl : k = i := by omega
            have e : x = y := of_decide_eq_true Hq.out.symm
            rw [HX.out, HY.out, e]
      · obtain rfl : i = L.length := by omega
        clear hdq
        go_wp2
        go_ret
        refine ⟨ret_bool ?_, n, rfl⟩
        rw [HQ.out, eq_comm, decide_eq_true_iff]
        exact List.ext_getElem HLen.out fun k h1 h2 => HA.out k h1 h1
  · have hb : ((L.length : Int) != (M.length : Int)) = true := by rw [bne_iff_ne]; omega
    have HLen := Lib.hid hlen
    clear hlen hdq
    go_enter Tryz.func17, Tryz.ntmps17
    go_wp2
    go_ret
    refine ⟨ret_bool ?_, 0, rfl⟩
    rw [HQ.out, eq_comm, decide_eq_false_iff_not]
    intro h
    exact HLen.out (by rw [h])
theorem KeysI.uniq {I : List It} {M N : List Ky} (h : KeysI I M) (k : KeysI I N) : M = N := by
  have hm : ∀ x, x ∈ M ↔ x ∈ N := fun x => by rw [h.mem, k.mem]
  have : ∀ {A B : List Ky}, RiseY A → RiseY B → (∀ d, d ∈ A ↔ d ∈ B) → A = B := by
    intro A
    induction A with
    | nil =>
      intro B _ _ h
      cases B with
      | nil => rfl
      | cons b B => exact absurd ((h b).2 (by simp)) (by simp)
    | cons a A ih =>
      intro B hA hB h
      cases B with
      | nil => exact absurd ((h a).1 (by simp)) (by simp)
      | cons b B =>
        have hA' := List.pairwise_cons.1 hA
        have hB' := List.pairwise_cons.1 hB
        have e : a = b := by
          rcases List.mem_cons.1 ((h a).1 (by simp)) with e | e
          · exact e
          · rcases List.mem_cons.1 ((h b).2 (by simp)) with e2 | e2
            · exact e2.symm
            · exact absurd ((hA'.1 b e2).trans (hB'.1 a e)) (LtY.irrefl a)
        subst e
        congr 1
        refine ih hA'.2 hB'.2 fun d => ⟨fun hd => ?_, fun hd => ?_⟩
        · rcases List.mem_cons.1 ((h d).1 (List.mem_cons_of_mem _ hd)) with e | e
          · subst e; exact absurd (hA'.1 d hd) (LtY.irrefl d)
          · exact e
        · rcases List.mem_cons.1 ((h d).2 (List.mem_cons_of_mem _ hd)) with e | e
          · subst e; exact absurd (hB'.1 d hd) (LtY.irrefl d)
          · exact e
  exact this h.rise k.rise hm
end Go.Proofs.YtldfaaahmpncbaaGreat

namespace Go.Proofs.YtldfaaahmpncbaaGreat
open Go.RowKit Go.Maps
open CtxM
set_option linter.unusedVariables false
set_option linter.unusedSimpArgs false
set_option maxRecDepth 20000
def bX (c : Nat) (k : Ky) : It := ⟨(1, c), k.1, k.2, false⟩
def bY (r : Int) (k : Ky) : It := ⟨(r, 1), k.1, k.2, false⟩
def bG (c : Nat) : It := goneI (1, c)
def bV (n : Nat) : List Nat := [n, 0, 0, 0, 0, 0, 0, 0, 0, 0, 0, 0, 0, 0, 0, 0]
def bW (n : Nat) (r : Int) : List Nat := (bV n).set (r - 1).toNat 1
section
variable (k o : Ky)
theorem both_1 : (seeDs kn0 [bX 1 k]).1 = ⟨(bV 1, []), [bX 1 k]⟩ := by kernel_rfl
theorem both_2 : (seeDs ⟨(bV 1, []), [bX 1 k]⟩ [bX 2 k, bG 1]).1 = ⟨(bV 2, []), [bG 1, bX 2 k]⟩ := by kernel_rfl
theorem both_3h : (seeDs ⟨(bV 2, []), [bG 1, bX 2 k]⟩ [bG 2]).1 = ⟨(bV 2, []), [bG 1, bG 2]⟩ := by kernel_rfl
theorem both_3n : (seeDs ⟨(bV 1, []), [bX 1 k]⟩ [bG 1]).1 = ⟨(bV 1, []), [bG 1]⟩ := by kernel_rfl
theorem both_3a : (seeDs ⟨(bV 2, []), [bG 1, bX 2 k]⟩ [bG 1]).1 = ⟨(bV 2, []), [bG 1, bX 2 k]⟩ := by kernel_rfl
theorem reg_cases {r : Int} (h1 : 3 ≤ r) (h2 : r ≤ 16) : r = 3 ∨ r = 4 ∨ r = 5 ∨ r = 6 ∨ r = 7 ∨ r = 8 ∨ r = 9 ∨ r = 10 ∨ r = 11 ∨ r = 12 ∨ r = 13 ∨ r = 14 ∨ r = 15 ∨ r = 16 := by omega
variable {r : Int} (h1 : 3 ≤ r) (h2 : r ≤ 16)
include h1 h2
theorem both_4h : (seeDs ⟨(bV 2, []), [bG 1, bG 2]⟩ [bY r o]).1 = ⟨(bW 2 r, []), [bG 1, bG 2, bY r o]⟩ := by
  rcases reg_cases h1 h2 with rfl | rfl | rfl | rfl | rfl | rfl | rfl | rfl | rfl | rfl | rfl | rfl | rfl | rfl <;> kernel_rfl
theorem both_4n : (seeDs ⟨(bV 1, []), [bG 1]⟩ [bY r o]).1 = ⟨(bW 1 r, []), [bG 1, bY r o]⟩ := by
  rcases reg_cases h1 h2 with rfl | rfl | rfl | rfl | rfl | rfl | rfl | rfl | rfl | rfl | rfl | rfl | rfl | rfl <;> kernel_rfl
theorem both_4a : (seeDs ⟨(bV 2, []), [bG 1, bX 2 k]⟩ [bY r o]).1 = ⟨(bW 2 r, []), [bG 1, bX 2 k, bY r o]⟩ := by
  rcases reg_cases h1 h2 with rfl | rfl | rfl | rfl | rfl | rfl | rfl | rfl | rfl | rfl | rfl | rfl | rfl | rfl <;> kernel_rfl
theorem both_5h : (seeDs ⟨(bW 2 r, []), [bG 1, bG 2, bY r o]⟩ [bX 1 k]).1 = ⟨(bW 2 r, []), [bG 1, bG 2, bY r o]⟩ := by
  rcases reg_cases h1 h2 with rfl | rfl | rfl | rfl | rfl | rfl | rfl | rfl | rfl | rfl | rfl | rfl | rfl | rfl <;> kernel_rfl
theorem both_5n : (seeDs ⟨(bW 1 r, []), [bG 1, bY r o]⟩ [bX 1 k]).1 = ⟨(bW 1 r, []), [bG 1, bY r o]⟩ := by
  rcases reg_cases h1 h2 with rfl | rfl | rfl | rfl | rfl | rfl | rfl | rfl | rfl | rfl | rfl | rfl | rfl | rfl <;> kernel_rfl
theorem both_6h : (seeDs ⟨(bW 2 r, []), [bG 1, bG 2, bY r o]⟩ [bX 2 k, bG 1]).1 = ⟨(bW 2 r, []), [bG 1, bG 2, bY r o]⟩ := by
  rcases reg_cases h1 h2 with rfl | rfl | rfl | rfl | rfl | rfl | rfl | rfl | rfl | rfl | rfl | rfl | rfl | rfl <;> kernel_rfl
theorem both_6n : (seeDs ⟨(bW 1 r, []), [bG 1, bY r o]⟩ [bX 2 k, bG 1]).1 = ⟨(bW 2 r, []), [bG 1, bX 2 k, bY r o]⟩ := by
  rcases reg_cases h1 h2 with rfl | rfl | rfl | rfl | rfl | rfl | rfl | rfl | rfl | rfl | rfl | rfl | rfl | rfl <;> kernel_rfl
omit h1 h2
theorem both_in0 (c : Nat) : In kn0.S.1 kn0.S.2 (1, c) ↔ False := by
  refine iff_false_intro ?_
  exact in_zero _
theorem both_i2 : ¬ In (bV 1) [] (1, 2) := by decide
include h1 h2
theorem both_ir2 : ¬ In (bV 2) [] (r, 1) := by
  rcases reg_cases h1 h2 with rfl | rfl | rfl | rfl | rfl | rfl | rfl | rfl | rfl | rfl | rfl | rfl | rfl | rfl <;> decide
theorem both_ir1 : ¬ In (bV 1) [] (r, 1) := by
  rcases reg_cases h1 h2 with rfl | rfl | rfl | rfl | rfl | rfl | rfl | rfl | rfl | rfl | rfl | rfl | rfl | rfl <;> decide
omit h1 h2
theorem both_g1 : goneOf [bX 1 k] k = [bG 1] := by simp [goneOf, hasK, bX, bG]
theorem both_g2 : goneOf [bG 1, bX 2 k] k = [bG 2] := by simp [goneOf, hasK, bX, bG, goneI]
theorem both_gh : goneOf [bG 1, bG 2] o = [] := by simp [goneOf, hasK, bG, goneI]
theorem both_gn : goneOf [bG 1] o = [] := by simp [goneOf, hasK, bG, goneI]
theorem both_hh : hasB [bG 1, bG 2, bY r o] k = decide (o = k) := by simp [hasB, hasK, bG, bY, goneI]
theorem both_hn : hasB [bG 1, bX 2 k, bY r o] k = true := by simp [hasB, hasK, bG, bX, bY, goneI]
theorem both_oh : hasB [bG 1, bG 2, bY r o] o = true := by simp [hasB, hasK, bG, bY, goneI]
theorem both_on : hasB [bG 1, bX 2 k, bY r o] o = true := by simp [hasB, hasK, bG, bX, bY, goneI]
theorem itB_live {d : Dt} (hd : May d) {t u : ByteArray} (hn : (nameB t && nameB u) = true) : itB ⟨d, t, u, false⟩ = true := by
  unfold itB
  rw [decide_eq_true hd, Bool.true_and, if_neg (by simp)]
  exact hn
end
end Go.Proofs.YtldfaaahmpncbaaGreat

/-
  The document's MayName, at, Find, Room, write, done.
-/
import Derived.Test.YtdbkhigocjmfoaaDskRefD
namespace Go.Proofs.Ytdbkhigocjmfoaa
open Go.RowKit
open DskM
set_option linter.unusedVariables false
set_option linter.unusedSimpArgs false
set_option maxRecDepth 20000
attribute [local go_sem] Oper.semAt_some

theorem byte_at (s : ByteArray) (k : Nat) (h : k < s.size) : byteAt s k = (s[k]'h).toNat := by
  have h' : k < s.data.size := h
  unfold byteAt
  rw [List.getD_eq_getElem?_getD, Array.getElem?_toList, Array.getElem?_eq_getElem h', Option.getD_some]
  rfl
theorem less_bytes (x y : ByteArray) : Op.bytesLess x.toList y.toList = bytesBefore x.data.toList y.data.toList := by
  rw [ByteArray.toList_eq, ByteArray.toList_eq]
  have : ∀ (x y : List UInt8), Op.bytesLess x y = bytesBefore x y := by
    intro x
    induction x with
    | nil => intro y; cases y <;> rfl
    | cons a x ih =>
      intro y
      cases y with
      | nil => rfl
      | cons b y =>
        show (a < b || (a == b && Op.bytesLess x y) : Bool) = (a < b || (a == b && bytesBefore x y) : Bool)
        rw [ih y]
  exact this _ _

set_option maxHeartbeats 4000000 in
theorem refMay_any (s : ByteArray) (w : World) : Calls Try.prog 19 #[.string s] w fun e w' => e = .returned (.bool (mayB s.data.toList)) ∧ Below w.heap.size w w' := by
  by_cases h1 : 1 ≤ s.size
  · by_cases h2 : s.size ≤ 32
    · have H1 := Lib.hid h1
      have H2 := Lib.hid h2
      have t1 : decide ((s.size : Int) < 1) = false := decide_eq_false (by omega)
      have t2 : decide ((32 : Int) < (s.size : Int)) = false := decide_eq_false (by omega)
      clear h1 h2
      go_enter Try.func19, Try.ntmps19
      go_wp2
      clear t1 t2
      go_loop [3] (fun i => ∃ k : Nat, k ≤ s.size ∧ i = .int .i64 (k : Int) ∧ ∀ j, j < k → okC (byteAt s j) = true) (fun i => s.size - (intOf i).toNat)
      case atStart => exact ⟨0, Nat.zero_le _, rfl, fun j h => absurd h (by omega)⟩
      case round =>
        obtain ⟨k, hk, rfl, hall⟩ := hrel
        have HALL := Lib.hid hall
        clear hall
        by_cases hlt : k < s.size
        · have hlt' : (k : Int) < (s.size : Int) := by omega
          have h0' : (0 : Int) ≤ (k : Int) := by omega
          have HB := Lib.hid (byte_at s k hlt)
          have h32 := H2.out
          rcases okC_parts (s[k]'hlt).toNat with ⟨hok, hr⟩ | ⟨hok, hr⟩
          · have HOK := Lib.hid (show okC (byteAt s k) = true by rw [HB.out]; exact hok)
            clear hok
            rcases hr with ⟨a, b⟩ | ⟨a, b⟩ | a | a
            · have d97 : decide ((97 : Int) ≤ (s[k].toNat : Int)) = true := decide_eq_true (by omega)
              have d122 : decide ((s[k].toNat : Int) ≤ 122) = true := decide_eq_true (by omega)
              clear a b
              go_wp2
              go_round
              case rel =>
                refine ⟨k + 1, by omega, by go_num, fun j hj => ?_⟩
                rcases Nat.lt_or_ge j k with h | h
                · exact HALL.out j h
                · obtain rfl : j = k := by omega
                  exact HOK.out
              case measure => simp [intOf]; omega
            · have d97 : decide ((97 : Int) ≤ (s[k].toNat : Int)) = false := decide_eq_false (by omega)
              have d48 : decide ((48 : Int) ≤ (s[k].toNat : Int)) = true := decide_eq_true (by omega)
              have d57 : decide ((s[k].toNat : Int) ≤ 57) = true := decide_eq_true (by omega)
              clear a b
              go_wp2
              go_round
              case rel =>
                refine ⟨k + 1, by omega, by go_num, fun j hj => ?_⟩
                rcases Nat.lt_or_ge j k with h | h
                · exact HALL.out j h
                · obtain rfl : j = k := by omega
                  exact HOK.out
              case measure => simp [intOf]; omega
            · have d97 : decide ((97 : Int) ≤ (s[k].toNat : Int)) = false := decide_eq_false (by omega)
              have d48 : decide ((48 : Int) ≤ (s[k].toNat : Int)) = false := decide_eq_false (by omega)
              have e46 : ((s[k].toNat : Int) == 46) = true := by rw [beq_iff_eq]; omega
              clear a
              go_wp2
              go_round
              case rel =>
                refine ⟨k + 1, by omega, by go_num, fun j hj => ?_⟩
                rcases Nat.lt_or_ge j k with h | h
                · exact HALL.out j h
                · obtain rfl : j = k := by omega
                  exact HOK.out
              case measure => simp [intOf]; omega
            · have d97 : decide ((97 : Int) ≤ (s[k].toNat : Int)) = false := decide_eq_false (by omega)
              have d48 : decide ((48 : Int) ≤ (s[k].toNat : Int)) = false := decide_eq_false (by omega)
              have e46 : ((s[k].toNat : Int) == 46) = false := by rw [beq_eq_false_iff_ne]; omega
              have e45 : ((s[k].toNat : Int) == 45) = true := by rw [beq_iff_eq]; omega
              clear a
              go_wp2
              go_round
              case rel =>
                refine ⟨k + 1, by omega, by go_num, fun j hj => ?_⟩
                rcases Nat.lt_or_ge j k with h | h
                · exact HALL.out j h
                · obtain rfl : j = k := by omega
                  exact HOK.out
              case measure => simp [intOf]; omega
          · have HOK := Lib.hid (may_not hlt (by rw [HB.out]; exact hok))
            clear hok
            rcases hr with a | a | ⟨a, b⟩ | a
            · have d97 : decide ((97 : Int) ≤ (s[k].toNat : Int)) = false := decide_eq_false (by omega)
              have d48 : decide ((48 : Int) ≤ (s[k].toNat : Int)) = false := decide_eq_false (by omega)
              have e46 : ((s[k].toNat : Int) == 46) = false := by rw [beq_eq_false_iff_ne]; omega
              have e45 : ((s[k].toNat : Int) == 45) = false := by rw [beq_eq_false_iff_ne]; omega
              clear a
              go_wp2
              go_ret
              exact ⟨ret_b HOK.out.symm, Below.refl _ _⟩
            · have d97 : decide ((97 : Int) ≤ (s[k].toNat : Int)) = false := decide_eq_false (by omega)
              have d48 : decide ((48 : Int) ≤ (s[k].toNat : Int)) = false := decide_eq_false (by omega)
              have e46 : ((s[k].toNat : Int) == 46) = false := by rw [beq_eq_false_iff_ne]; omega
              have e45 : ((s[k].toNat : Int) == 45) = false := by rw [beq_eq_false_iff_ne]; omega
              clear a
              go_wp2
              go_ret
              exact ⟨ret_b HOK.out.symm, Below.refl _ _⟩
            · have d97 : decide ((97 : Int) ≤ (s[k].toNat : Int)) = false := decide_eq_false (by omega)
              have d48 : decide ((48 : Int) ≤ (s[k].toNat : Int)) = true := decide_eq_true (by omega)
              have d57 : decide ((s[k].toNat : Int) ≤ 57) = false := decide_eq_false (by omega)
              have e46 : ((s[k].toNat : Int) == 46) = false := by rw [beq_eq_false_iff_ne]; omega
              have e45 : ((s[k].toNat : Int) == 45) = false := by rw [beq_eq_false_iff_ne]; omega
              clear a b
              go_wp2
              go_ret
              exact ⟨ret_b HOK.out.symm, Below.refl _ _⟩
            · have d97 : decide ((97 : Int) ≤ (s[k].toNat : Int)) = true := decide_eq_true (by omega)
              have d122 : decide ((s[k].toNat : Int) ≤ 122) = false := decide_eq_false (by omega)
              have d48 : decide ((48 : Int) ≤ (s[k].toNat : Int)) = true := decide_eq_true (by omega)
              have d57 : decide ((s[k].toNat : Int) ≤ 57) = false := decide_eq_false (by omega)
              have e46 : ((s[k].toNat : Int) == 46) = false := by rw [beq_eq_false_iff_ne]; omega
              have e45 : ((s[k].toNat : Int) == 45) = false := by rw [beq_eq_false_iff_ne]; omega
              clear a
              go_wp2
              go_ret
              exact ⟨ret_b HOK.out.symm, Below.refl _ _⟩
        · obtain rfl : k = s.size := by omega
          have hyes := may_all H1.out H2.out HALL.out
          have HY := Lib.hid hyes
          clear hyes hlt hk
          go_wp2
          go_ret
          exact ⟨ret_b HY.out.symm, Below.refl _ _⟩
    · have t1 : decide ((s.size : Int) < 1) = false := decide_eq_false (by omega)
      have t2 : decide ((32 : Int) < (s.size : Int)) = true := decide_eq_true (by omega)
      have hno : mayB s.data.toList = false := by
        cases hm : mayB s.data.toList with
        | false => rfl
        | true => exact absurd (may_size hm) h2
      have HNO := Lib.hid hno
      clear h1 h2 hno
      go_enter Try.func19, Try.ntmps19
      go_wp2
      go_ret
      exact ⟨ret_b HNO.out.symm, Below.refl _ _⟩
  · have t1 : decide ((s.size : Int) < 1) = true := decide_eq_true (by omega)
    have hno : mayB s.data.toList = false := by
      cases hm : mayB s.data.toList with
      | false => rfl
      | true =>
        have h3 : 1 ≤ s.size := by simpa using (mayB_iff.1 hm).1
        exact absurd h3 h1
    have HNO := Lib.hid hno
    clear h1 hno
    go_enter Try.func19, Try.ntmps19
    go_wp2
    go_ret
    exact ⟨ret_b HNO.out.symm, Below.refl _ _⟩
section
variable {w w' : World} {q : Nat} {v : Value} {S : Ds} {R : List Fr}
/-- The names in memory. -/
theorem Rd.names {A : Option Addr} {n c : Nat} (h : Rd w q (.slice A n c) S R) : ∀ k (hk : k < R.length), ∃ g sk, A = some ⟨g, 0, none⟩ ∧ sk.data.toList = R[k].nm ∧ w.cell? ⟨g, k * 3, none⟩ = some (.string sk) := by
  intro k hk
  obtain ⟨g, c', e2, _, _, hx, _⟩ := h.row.form (by omega)
  injection e2 with a1 a2 a3
  exact ⟨g, ⟨R[k].nm.toArray⟩, a1, rfl, (hx k hk).1⟩
theorem pos_pl {n : Nm} {i : Nat} (hi : i ≤ R.length) (h1 : ∀ j (h : j < R.length), j < i → bytesBefore R[j].nm n = true) (h2 : ∀ h : i < R.length, bytesBefore R[i].nm n = false) : posP (pl R) n = i :=
  pos_is _ _ _ (by rw [pl_len]; exact hi) (fun j hj hji => by rw [pl_get]; exact h1 j (by rw [pl_len] at hj; exact hj) hji) (fun hj => by rw [pl_get]; exact h2 (by rw [pl_len] at hj; exact hj))
theorem ret_at {a b : Int} {x y : Bool} (h : a = b) (k : x = y) : Ending.returned (.tuple #[.int .i64 a, .bool x]) = .returned (.tuple #[.int .i64 b, .bool y]) := by rw [h, k]
set_option maxHeartbeats 4000000 in
theorem at_any (h : Rd w q v S R) (hl : R.length ≤ 64) (s : ByteArray) :
    Calls Try.prog 59 #[.pointer (some ⟨q, 0, none⟩), .string s] w fun e w' => e = .returned (.tuple #[.int .i64 (posP (pl R) s.data.toList : Int), .bool (isP (pl R) s.data.toList)]) ∧ Below w.heap.size w w' := by
  have hfo : Try.prog.follows .mixedOrders = true := by kernel_rfl
  obtain ⟨A, c, rfl, hc1, hc2⟩ := h.row.shape
  have q0 := h.c0
  have HX := Lib.hid h.names
  have HL := Lib.hid hl
  clear h
  go_enter Try.func59, Try.ntmps59
  go_wp2
  go_loop [6] (fun i => ∃ k : Nat, k ≤ R.length ∧ i = .int .i64 (k : Int) ∧ ∀ j (h : j < R.length), j < k → bytesBefore R[j].nm s.data.toList = true) (fun i => R.length - (intOf i).toNat)
  case atStart => exact ⟨0, Nat.zero_le _, rfl, fun j h h' => absurd h' (by omega)⟩
  case round =>
    obtain ⟨k, hk, rfl, hall⟩ := hrel
    have HALL := Lib.hid hall
    have h0' : (0 : Int) ≤ (k : Int) := by omega
    clear hall hl
    by_cases hlt : k < R.length
    · have hlt' : (k : Int) < (R.length : Int) := by omega
      have h64 : (k : Int) < 64 := by have := HL.out; omega
      obtain ⟨g, sk, rfl, hn, hx⟩ := HX.out k hlt
      have hx' : w.drew.cell? ⟨g, k * 3, none⟩ = some (.string sk) := hx
      have q0' : w.drew.cell? ⟨q, 0, none⟩ = some (.slice (some ⟨g, 0, none⟩) R.length c) := q0
      have HLT := Lib.hid hlt
      have HN := Lib.hid hn
      clear hn
      by_cases hb : bytesBefore sk.data.toList s.data.toList = true
      · have hbl : Op.bytesLess sk.toList s.toList = true := by rw [less_bytes]; exact hb
        have HB := Lib.hid hb
        clear hb
        go_wp2
        go_round
        case rel =>
          refine ⟨k + 1, HLT.out, by go_num, fun j hj hjk => ?_⟩
          rcases Nat.lt_or_ge j k with h | h
          · exact HALL.out j hj h
          · obtain rfl : j = k := by omega
            rw [← HN.out]; exact HB.out
        case measure => simp [intOf]; omega
      · have hbf : bytesBefore sk.data.toList s.data.toList = false := by simpa using hb
        have hbl : Op.bytesLess sk.toList s.toList = false := by rw [less_bytes]; exact hbf
        have hp : posP (pl R) s.data.toList = k := pos_pl hk HALL.out (fun _ => by rw [← HN.out]; exact hbf)
        have hi : isP (pl R) s.data.toList = (sk.data.toList == s.data.toList) := by rw [isP_of hp (by rw [pl_len]; exact hlt), pl_get, HN.out]; rfl
        have HP := Lib.hid (And.intro hp hi)
        clear hb hbf hp hi
        by_cases he : sk.data.toList = s.data.toList
        · have heb : (sk.toList == s.toList) = true := by rw [beq_iff_eq, ByteArray.toList_eq, ByteArray.toList_eq]; exact he
          have HE := Lib.hid (show (sk.data.toList == s.data.toList) = true by rw [beq_iff_eq]; exact he)
          clear he
          go_wp2_with fail
          go_quiet (fail)
          go_wp2_with fail
          go_ret2
          exact ⟨ret_at (by rw [HP.out.1]) (by rw [HP.out.2, HE.out]), below_drewN (Below.refl _ _) _⟩
        · have heb : (sk.toList == s.toList) = false := by rw [beq_eq_false_iff_ne, ByteArray.toList_eq, ByteArray.toList_eq]; exact he
          have HE := Lib.hid (show (sk.data.toList == s.data.toList) = false by rw [beq_eq_false_iff_ne]; exact he)
          clear he
          go_wp2_with fail
          go_quiet (fail)
          go_wp2_with fail
          go_ret2
          exact ⟨ret_at (by rw [HP.out.1]) (by rw [HP.out.2, HE.out]), below_drewN (Below.refl _ _) _⟩
    · obtain rfl : k = R.length := by omega
      have q0' : w.drew.cell? ⟨q, 0, none⟩ = some (.slice A R.length c) := q0
      have hp : posP (pl R) s.data.toList = R.length := pos_pl (Nat.le_refl _) HALL.out (fun h => absurd h (by omega))
      have hi : isP (pl R) s.data.toList = false := isP_end (by rw [hp, pl_len])
      have HP := Lib.hid (And.intro hp hi)
      have hf : decide ((R.length : Int) < (R.length : Int)) = false := decide_eq_false (by omega)
      clear hlt hk hp hi
      go_wp2_with fail
      go_quiet (fail)
      go_wp2_with fail
      go_ret2
      exact ⟨ret_at (by rw [HP.out.1]) (by rw [HP.out.2]), below_drewN (Below.refl _ _) _⟩
end
end Go.Proofs.Ytdbkhigocjmfoaa

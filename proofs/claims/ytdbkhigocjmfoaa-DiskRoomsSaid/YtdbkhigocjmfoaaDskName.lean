/-
  The walk of disk's MayName, and of the document's.
-/
import Derived.Test.YtdbkhigocjmfoaaMem
import Derived.Test.YtdbkhigocjmfoaaDskM
import Derived.Lib.ConvBytes
namespace Go.Proofs.Ytdbkhigocjmfoaa
open Go.RowKit
open DskM
set_option linter.unusedVariables false
set_option linter.unusedSimpArgs false
set_option maxRecDepth 20000

/-- May a name have this byte? -/
def okC (c : Nat) : Bool := decide (97 ≤ c ∧ c ≤ 122 ∨ 48 ≤ c ∧ c ≤ 57 ∨ c = 46 ∨ c = 45)
/-- May it be a name? -/
def mayB (l : List UInt8) : Bool := decide (1 ≤ l.length ∧ l.length ≤ 32 ∧ ∀ c ∈ l, okC c.toNat = true)
theorem mayB_iff {l : List UInt8} : mayB l = true ↔ 1 ≤ l.length ∧ l.length ≤ 32 ∧ ∀ c ∈ l, okC c.toNat = true := by unfold mayB; rw [decide_eq_true_iff]
theorem okC_parts (c : Nat) : (okC c = true ∧ ((97 ≤ c ∧ c ≤ 122) ∨ (48 ≤ c ∧ c ≤ 57) ∨ c = 46 ∨ c = 45)) ∨ (okC c = false ∧ (c ≤ 44 ∨ c = 47 ∨ (58 ≤ c ∧ c ≤ 96) ∨ 123 ≤ c)) := by
  unfold okC
  by_cases h : 97 ≤ c ∧ c ≤ 122 ∨ 48 ≤ c ∧ c ≤ 57 ∨ c = 46 ∨ c = 45
  · exact .inl ⟨decide_eq_true h, h⟩
  · exact .inr ⟨decide_eq_false h, by omega⟩
def byteAt (s : ByteArray) (k : Nat) : Nat := (s.data.toList.getD k 0).toNat
theorem may_size {s : ByteArray} (h : mayB s.data.toList = true) : s.size ≤ 32 := by
  have := (mayB_iff.1 h).2.1
  simpa using this

theorem may_all {s : ByteArray} (h1 : 1 ≤ s.size) (h2 : s.size ≤ 32) (h : ∀ k, k < s.size → okC (byteAt s k) = true) : mayB s.data.toList = true := by
  refine mayB_iff.2 ⟨by simpa using h1, by simpa using h2, fun c hc => ?_⟩
  obtain ⟨i, hi, rfl⟩ := List.getElem_of_mem hc
  have := h i (by simpa using hi)
  unfold byteAt at this
  rw [List.getD_eq_getElem?_getD, List.getElem?_eq_getElem hi] at this
  exact this
theorem may_not {s : ByteArray} {k : Nat} (hk : k < s.size) (h : okC (byteAt s k) = false) : mayB s.data.toList = false := by
  cases hm : mayB s.data.toList with
  | false => rfl
  | true =>
    have hi : k < s.data.toList.length := by simpa using hk
    have := (mayB_iff.1 hm).2.2 s.data.toList[k] (List.getElem_mem hi)
    unfold byteAt at h
    rw [List.getD_eq_getElem?_getD, List.getElem?_eq_getElem hi] at h
    have h2 : okC s.data.toList[k].toNat = false := h
    rw [h2] at this
    cases this

theorem ret_b {a b : Bool} (h : a = b) : Ending.returned (.bool a) = .returned (.bool b) := by rw [h]

set_option maxHeartbeats 2000000 in
theorem mayName_any (s : ByteArray) (w : World) : Calls Try.prog 18 #[.string s] w fun e w' => e = .returned (.bool (mayB s.data.toList)) ∧ Below w.heap.size w w' := by
  by_cases h1 : 1 ≤ s.size
  · by_cases h2 : s.size ≤ 32
    · have H1 := Lib.hid h1
      have H2 := Lib.hid h2
      have t1 : decide ((s.size : Int) < 1) = false := decide_eq_false (by omega)
      have t2 : decide ((32 : Int) < (s.size : Int)) = false := decide_eq_false (by omega)
      have hcv := Lib.run_convert_string_bytes (P := Try.prog) w 9 38 5 s Try.underlying9 Try.underlying38 Try.underlying5
      have hcell : ∀ k, k < s.size → (Lib.bytesWorld w 5 s).cell? ⟨w.heap.size, k, none⟩ = some (.int .u8 (byteAt s k : Int)) := fun k hk => Lib.bytesWorld_cell w 5 s k hk
      have hb : Below w.heap.size w (Lib.bytesWorld w 5 s) := ⟨rfl, rfl, rfl, by rw [Lib.bytesWorld_size]; omega, fun k hk => Lib.bytesWorld_at_old w _ s k hk⟩
      generalize hW : Lib.bytesWorld w 5 s = W at hcv hcell hb
      generalize grownCap w s.size 0 5 = C at hcv
      have HC := Lib.hid hcell
      clear h1 h2 hcell hW
      go_enter Try.func18, Try.ntmps18
      go_wp2
      clear hcv t1 t2
      go_loop [16] (fun i => ∃ k : Nat, k ≤ s.size ∧ i = .int .i64 (k : Int) ∧ ∀ j, j < k → okC (byteAt s j) = true) (fun i => s.size - (intOf i).toNat)
      case atStart => exact ⟨0, Nat.zero_le _, rfl, fun j h => absurd h (by omega)⟩
      case round =>
        obtain ⟨k, hk, rfl, hall⟩ := hrel
        have HALL := Lib.hid hall
        clear hall
        by_cases hlt : k < s.size
        · have hx := HC.out k hlt
          obtain ⟨c, hc⟩ : ∃ c, c = byteAt s k := ⟨_, rfl⟩
          rw [← hc] at hx
          have HK := Lib.hid hc
          have hlt' : (k : Int) < (s.size : Int) := by omega
          have h32 := H2.out
          clear hc
          rcases okC_parts c with ⟨hok, hr⟩ | ⟨hok, hr⟩
          · have HOK := Lib.hid hok
            clear hok
            rcases hr with ⟨a, b⟩ | ⟨a, b⟩ | rfl | rfl
            all_goals
              go_wp2
              go_round
              case rel =>
                refine ⟨k + 1, by omega, by go_num, fun j hj => ?_⟩
                rcases Nat.lt_or_ge j k with h | h
                · exact HALL.out j h
                · obtain rfl : j = k := by omega
                  rw [← HK.out]; exact HOK.out
              case measure => simp [intOf]; omega
          · have HOK := Lib.hid hok
            clear hok
            have hno : mayB s.data.toList = false := may_not hlt (by rw [← HK.out]; exact HOK.out)
            have HNO := Lib.hid hno
            clear hno
            have e46 : ((c : Int) == 46) = false := by rw [beq_eq_false_iff_ne]; omega
            have e45 : ((c : Int) == 45) = false := by rw [beq_eq_false_iff_ne]; omega
            rcases hr with a | rfl | ⟨a, b⟩ | a
            · go_wp2
              go_ret
              exact ⟨ret_b HNO.out.symm, hb⟩
            · go_wp2
              go_ret
              exact ⟨ret_b HNO.out.symm, hb⟩
            · have d57 : decide ((c : Int) ≤ 57) = false := decide_eq_false (by omega)
              go_wp2
              go_ret
              exact ⟨ret_b HNO.out.symm, hb⟩
            · have d57 : decide ((c : Int) ≤ 57) = false := decide_eq_false (by omega)
              have d122 : decide ((c : Int) ≤ 122) = false := decide_eq_false (by omega)
              go_wp2
              go_ret
              exact ⟨ret_b HNO.out.symm, hb⟩
        · obtain rfl : k = s.size := by omega
          have hyes := may_all H1.out H2.out HALL.out
          have HY := Lib.hid hyes
          clear hyes hlt hk
          go_wp2
          go_ret
          exact ⟨ret_b HY.out.symm, hb⟩
    · have t1 : decide ((s.size : Int) < 1) = false := decide_eq_false (by omega)
      have t2 : decide ((32 : Int) < (s.size : Int)) = true := decide_eq_true (by omega)
      have hno : mayB s.data.toList = false := by
        cases hm : mayB s.data.toList with
        | false => rfl
        | true => exact absurd (may_size hm) h2
      have HNO := Lib.hid hno
      clear h1 h2 hno
      go_enter Try.func18, Try.ntmps18
      go_wp2
      go_ret
      exact ⟨ret_b HNO.out.symm, Below.refl _ _⟩
  · have t1 : decide ((s.size : Int) < 1) = true := decide_eq_true (by omega)
    have hno : mayB s.data.toList = false := by
      cases hm : mayB s.data.toList with
      | false => rfl
      | true =>
        have h3 : 1 ≤ s.size := by simpa using (mayB_iff.1 hm).1
        exact absurd h3 h1
    have HNO := Lib.hid hno
    clear h1 hno
    go_enter Try.func18, Try.ntmps18
    go_wp2
    go_ret
    exact ⟨ret_b HNO.out.symm, Below.refl _ _⟩
end Go.Proofs.Ytdbkhigocjmfoaa

/-
  The document's Get, Put, Join, Much (made by a program out of the texts on wire, with 3000 in the place of 9000).
-/
import Derived.Test.YtggijgclnnlfmaaDoorShaEq
import Derived.Deep.OwnRows
import Derived.Deep.RegionHeld3
import Derived.Deep.RegionLaw
namespace Go.Proofs.YtggijgclnnlfmaaDoor
open Go.RowKit
set_option linter.unusedVariables false
set_option linter.unusedSimpArgs false

/-- The number that bytes say, the highest first. -/
def beN (l : List UInt8) : Nat := l.foldl (fun n c => n * 256 + c.toNat) 0
theorem beN_snoc (l : List UInt8) (c : UInt8) : beN (l ++ [c]) = beN l * 256 + c.toNat := by simp [beN]
theorem beN_lt (l : List UInt8) : beN l < 256 ^ l.length := by
  suffices ∀ (l : List UInt8) (n k : Nat), n < 256 ^ k → l.foldl (fun n c => n * 256 + c.toNat) n < 256 ^ (k + l.length) by have := this l 0 0 (by simp); simpa [beN] using this
  intro l
  induction l with
  | nil => intro n k h; simpa using h
  | cons c l ih =>
    intro n k h
    have hc : c.toNat < 256 := c.toNat_lt
    have := ih (n * 256 + c.toNat) (k + 1) (by rw [Nat.pow_succ]; omega)
    simpa [Nat.add_assoc, Nat.add_comm, Nat.add_left_comm] using this
theorem beN_take (l : List UInt8) (k : Nat) (h : k < l.length) : beN (l.take (k + 1)) = beN (l.take k) * 256 + l[k].toNat := by rw [take_snoc l k h, beN_snoc]

theorem pow_le8 {k : Nat} (h : k ≤ 8) : 256 ^ k ≤ 18446744073709551616 := by
  have : 256 ^ k ≤ 256 ^ 8 := Nat.pow_le_pow_right (by decide) h
  simpa using this
theorem beN_lt64 (l : List UInt8) (h : l.length ≤ 8) : beN l < 18446744073709551616 := Nat.lt_of_lt_of_le (beN_lt l) (pow_le8 h)
theorem beN_take_lt (l : List UInt8) (k : Nat) (h : l.length ≤ 8) (hk : k < l.length) : beN (l.take k) * 256 + 255 < 18446744073709551616 := by
  have h1 := beN_lt (l.take k)
  have h2 : 256 ^ (l.take k).length ≤ 256 ^ 7 := Nat.pow_le_pow_right (by decide) (by simp; omega)
  have h3 : (256 : Nat) ^ 7 = 72057594037927936 := by decide
  omega
/-- 'n * 256 + c', where there is room. -/
theorem add_byte (n : Nat) (c : UInt8) (h : n * 256 + 255 < 18446744073709551616) :
    IntKind.u64.wrap (IntKind.u64.wrap ((n : Int) * 256) + IntKind.u64.wrap (c.toNat : Int)) = ((n * 256 + c.toNat : Nat) : Int) := by
  have hc : c.toNat < 256 := c.toNat_lt
  simp only [IntKind.wrap_u64]; omega

set_option maxHeartbeats 400000 in
theorem refGet_any (v : Value) (l : List UInt8) (w : World) (hs : Sl w v l) (h8 : l.length ≤ 8) :
    Calls Tryd.prog 42 #[v] w fun e w' => e = .returned (.int .u64 (beN l : Int)) ∧ w = w' := by
  obtain ⟨A, c, rfl, hc, ha⟩ := hs
  go_enter Tryd.func42, Tryd.ntmps42
  go_wp2
  go_loop [3, 4] (fun n i => ∃ k : Nat, k ≤ l.length ∧ i = .int .i64 k ∧ n = .int .u64 (beN (l.take k) : Int)) (fun _ i => l.length - (intOf i).toNat)
  case atStart => exact ⟨0, Nat.zero_le _, rfl, rfl⟩
  case round =>
    obtain ⟨k, hk, rfl, rfl⟩ := hrel
    by_cases hlt : k < l.length
    · obtain ⟨b, o, rfl, hx⟩ := ha (by omega)
      have hcell := hx k hlt
      have H := Lib.hid (beN_take l k hlt)
      clear hx ha
      go_wp2
      go_round
      case rel => exact ⟨k + 1, by omega, by go_num, by rw [add_byte _ _ (beN_take_lt l k h8 hlt), H.out]⟩
      case measure => simp [intOf]; omega
    · go_wp2
      go_ret
      exact ⟨ret_int (by rw [List.take_of_length_le (by omega)]), rfl⟩

def sh (n j : Nat) : Nat := n / 256 ^ j
theorem sh_zero (n : Nat) : sh n 0 = n := by simp [sh]
theorem sh_succ (n k : Nat) : sh n (k + 1) = sh n k / 256 := by unfold sh; rw [Nat.div_div_eq_div_mul, Nat.pow_succ]
theorem sh_lt (n k : Nat) (hn : n < 18446744073709551616) : sh n k < 18446744073709551616 := Nat.lt_of_le_of_lt (Nat.div_le_self _ _) hn
def putRow (n s i : Nat) (C : Array Value) : Prop := C.size = s ∧ ∀ j, i ≤ j → j < s → C[j]? = some (.int .u8 ((sh n (s - 1 - j) % 256 : Nat) : Int))
theorem putRow_start (n s : Nat) (C : Array Value) (h : C.size = s) : putRow n s s C := ⟨h, fun j h1 h2 => absurd h2 (by omega)⟩
theorem putRow_step {n s i : Nat} {C : Array Value} (h : putRow n s (i + 1) C) (hi : i < s) (x : Int) (hx : x = ((sh n (s - 1 - i) % 256 : Nat) : Int)) : putRow n s i (C.setIfInBounds i (.int .u8 x)) := by
  subst hx
  refine ⟨by simpa using h.1, fun j h1 h2 => ?_⟩
  have hs := h.1
  rcases Nat.eq_or_lt_of_le h1 with e | e
  · subst e
    rw [Array.getElem?_setIfInBounds_self_of_lt (by omega)]
  · rw [Array.getElem?_setIfInBounds_ne (by omega)]
    exact h.2 j (by omega) h2
theorem putRow_done {n s : Nat} {C : Array Value} (h : putRow n s 0 C) : C.toList = (beB s n).map bv := by
  apply List.ext_getElem?
  intro j
  by_cases hj : j < s
  · have h1 := h.2 j (Nat.zero_le _) hj
    rw [Array.getElem?_toList, h1, List.getElem?_map, List.getElem?_eq_getElem (by rw [beB_length]; exact hj), beB_get]
    simp [bv, sh]
  · have hs := h.1
    rw [List.getElem?_eq_none (by simp; omega), List.getElem?_eq_none (by simp [beB_length]; omega)]

set_option maxHeartbeats 400000 in
theorem refPut_any (n s : Nat) (w : World) (hs : s ≤ 8) (hn : n < 18446744073709551616) :
    Calls Tryd.prog 41 #[.int .u64 (n : Int), .int .i64 (s : Int)] w fun e w' =>
      ∃ v', e = .returned v' ∧ Own w' w.heap.size 5 v' (beB s n) ∧ Below w.heap.size w w' := by
  have hmk := run_make_row' (P := Tryd.prog) 25 5 (.int .u8 0) 1 Tryd.underlying25 info_u8 rfl .i64 .i64 s (by omega) (by omega)
  go_enter Tryd.func41, Tryd.ntmps41
  go_wp2
  clear hmk
  go_loopw [0, 6] (fun x z wr => ∃ (i : Nat) (C : Array Value), i ≤ s ∧ z = .int .i64 ((i : Int) - 1) ∧ x = .int .u64 ((sh n (s - i) : Nat) : Int) ∧ wr = w.alloc (.cells C 5) ∧ putRow n s i C) (fun _ z _ => (intOf z + 1).toNat)
  case atStart => exact ⟨s, _, Nat.le_refl _, rfl, by rw [Nat.sub_self, sh_zero], rfl, putRow_start n s _ (by simp [madeCells])⟩
  case round =>
    obtain ⟨i, C, hi, rfl, rfl, rfl, hC⟩ := hrel
    by_cases h0 : 0 < i
    · obtain ⟨k, rfl⟩ : ∃ k, i = k + 1 := ⟨i - 1, by omega⟩
      have hd := sh_lt n (s - (k + 1)) hn
      have hsz : k < C.size := by rw [hC.1]; omega
      have hcell : (w.alloc (.cells C 5)).cell? ⟨w.heap.size, k, none⟩ = some C[k] := by rw [(Blk.new w _ C).cell k]; exact Array.getElem?_eq_getElem hsz
      go_wp2
      go_roundw
      case rel => exact ⟨k, _, by omega, rfl, by rw [show s - k = s - (k + 1) + 1 from by omega, sh_succ]; simp, rfl, putRow_step hC (by omega) _ (by rw [show s - 1 - k = s - (k + 1) from by omega]; simp)⟩
      case measure => simp [intOf]
    · obtain rfl : i = 0 := by omega
      go_wp2
      go_ret
      exact ⟨_, rfl, Own.of_new w _ _ C _ s (Nat.le_refl _) (putRow_done hC) (beB_length _ _).symm (by rw [beB_length]; omega), (Below.refl _ _).alloc (Nat.le_refl _) _⟩
set_option maxHeartbeats 400000 in
theorem refJoin_any (v : Value) (ls : List (List UInt8)) (w : World) (hs : Sls w v ls) (hl : ls.flatten.length ≤ 1000000) (hn : ls.length ≤ 1000000) :
    Calls Tryd.prog 10 #[v] w fun e w' => ∃ v', e = .returned v' ∧ Own w' w.heap.size 5 v' ls.flatten ∧ Below w.heap.size w w' := by
  obtain ⟨i0, hi, hz0, hz1, hz2⟩ := info_parts info_u8
  have hs' := hs
  obtain ⟨A, c, rfl, hc, ha⟩ := hs
  clear ha
  go_enter Tryd.func10, Tryd.ntmps10
  go_wp2
  go_loopw [3, 4] (fun x z wr => ∃ k : Nat, k ≤ ls.length ∧ z = .int .i64 (k : Int) ∧ Own wr w.heap.size 5 x (ls.take k).flatten ∧ Below w.heap.size w wr) (fun _ z _ => ls.length - (intOf z).toNat)
  case atStart => exact ⟨0, Nat.zero_le _, rfl, by simpa using Own.nil, Below.refl _ _⟩
  case round =>
    obtain ⟨k, hk, rfl, ho, hb⟩ := hrel
    by_cases hlt : k < ls.length
    · obtain ⟨A', c', e, _, ha⟩ := hs'.below hb
      injection e with e1 e2 e3
      subst e1 e3
      obtain ⟨b, o, rfl, hx⟩ := ha (by omega)
      obtain ⟨u, hu, hsu⟩ := hx k hlt
      have hsu' := hsu
      obtain ⟨A2, c2, rfl, _, _⟩ := hsu
      have Hlen := Lib.hid (Nat.le_trans (flatten_take_le ls k hlt) (Nat.le_trans hl (by decide : 1000000 ≤ 1000000000)))
      have hbw := hb.size
      clear hx ha hs'
      go_wp2_with (at_builtin; refine wpList_append_bytes _ rfl _ _ 25 rfl w.heap.size 5 i0 Tryd.underlying25 hi hz0 hz1 hz2 _ (ls.take k).flatten rfl ho _ ls[k] rfl hsu' Hlen.out hbw ?_)
      intro v' w1 ho1 hb1
      have Ho := Lib.hid ho1
      clear ho1
      go_wp2
      go_roundw
      case rel => exact ⟨k + 1, by omega, by go_num, by rw [flatten_take_succ ls k hlt]; exact Ho.out, hb.trans hb1⟩
      case measure => simp [intOf]; omega
    · obtain rfl : k = ls.length := by omega
      go_wp2
      go_ret
      rw [List.take_length] at ho
      exact ⟨_, rfl, ho, hb⟩


/-- How much Much has counted of the first k lists. -/
def mc (ls : List (List UInt8)) (k : Nat) : Nat := ls.length + ((ls.take k).map (fun x => min x.length 3001)).sum
theorem mc_zero (ls : List (List UInt8)) : mc ls 0 = ls.length := by simp [mc]
theorem mc_succ (ls : List (List UInt8)) (k : Nat) (h : k < ls.length) : mc ls (k + 1) = mc ls k + min ls[k].length 3001 := by
  unfold mc
  rw [List.take_succ_eq_append_getElem h, List.map_append, List.sum_append]; simp; omega
theorem sum_le : ∀ (ls : List (List UInt8)), (ls.map (fun x => min x.length 3001)).sum ≤ ls.flatten.length
  | [] => by simp
  | l :: ls => by
    have := sum_le ls
    simp only [List.map_cons, List.sum_cons, List.flatten_cons, List.length_append]; omega
theorem sum_eq : ∀ (ls : List (List UInt8)), (ls.map (fun x => min x.length 3001)).sum ≤ 3000 → (ls.map (fun x => min x.length 3001)).sum = ls.flatten.length
  | [], _ => by simp
  | l :: ls, h => by
    simp only [List.map_cons, List.sum_cons] at h
    have := sum_eq ls (by omega)
    simp only [List.map_cons, List.sum_cons, List.flatten_cons, List.length_append]; omega
theorem flatten_take (ls : List (List UInt8)) (k : Nat) : (ls.take k).flatten.length ≤ ls.flatten.length := by
  have h2 : ls.flatten = (ls.take k).flatten ++ (ls.drop k).flatten := by rw [← List.flatten_append, List.take_append_drop]
  rw [h2, List.length_append]; omega
/-- Counted far enough. -/
theorem mc_much (ls : List (List UInt8)) (k : Nat) (h : 3000 < mc ls k) : 3000 < ls.length + ls.flatten.length := by
  have h1 := sum_le (ls.take k)
  have h2 := flatten_take ls k
  unfold mc at h; omega
theorem mc_few (ls : List (List UInt8)) (h : mc ls ls.length ≤ 3000) : ls.length + ls.flatten.length ≤ 3000 := by
  unfold mc at h
  rw [List.take_length] at h
  have := sum_eq ls (by omega)
  omega

set_option maxHeartbeats 400000 in
theorem much_any (v : Value) (ls : List (List UInt8)) (w : World) (b : Bool) (hs : Sls w v ls) (hn : ls.length ≤ 9223372036854775807) (hb : b = decide (3000 < ls.length + ls.flatten.length)) :
    Calls Tryd.prog 8 #[v, .int .i64 3000] w fun e w' => e = .returned (.bool b) ∧ w = w' := by
  have Hb := Lib.hid hb
  clear hb
  obtain ⟨A, c, rfl, hc, ha⟩ := hs
  have Ha := Lib.hid ha
  clear ha
  go_enter Tryd.func8, Tryd.ntmps8
  go_wp2
  go_loop [5, 6] (fun x z => ∃ k : Nat, k ≤ ls.length ∧ z = .int .i64 (k : Int) ∧ x = .int .i64 (mc ls k : Int) ∧ (mc ls k ≤ 6001 ∨ k = 0)) (fun _ z => ls.length - (intOf z).toNat)
  case atStart => exact ⟨0, Nat.zero_le _, rfl, by rw [mc_zero], .inr rfl⟩
  case round =>
    obtain ⟨k, hk, rfl, rfl, hm⟩ := hrel
    by_cases hlt : k < ls.length
    · by_cases hmc : mc ls k ≤ 3000
      · obtain ⟨bb, o, rfl, hx⟩ := Ha.out (by omega)
        obtain ⟨u, hu, hsu⟩ := hx k hlt
        obtain ⟨A2, c2, rfl, _, _⟩ := hsu
        have hs := Lib.hid (mc_succ ls k hlt)
        have hmi : (mc ls k : Int) ≤ 3000 := by omega
        clear hx hm
        go_wp2
        go_round
        case rel =>
          refine ⟨k + 1, by omega, by go_num, ?_, ?_⟩
          · rw [hs.out]
            congr 1
            split <;> omega
          · left
            rw [hs.out]; omega
        case measure => simp [intOf]; omega
      · have hmi : ¬ (mc ls k : Int) ≤ 3000 := by omega
        have Hm := Lib.hid (mc_much ls k (by omega))
        go_wp2
        go_ret
        exact ⟨ret_bool (by rw [Hb.out]; exact (decide_eq_true Hm.out).symm), rfl⟩
    · obtain rfl : k = ls.length := by omega
      have He := Lib.hid (show decide ((3000 : Int) < (mc ls ls.length : Int)) = b by
        rw [Hb.out]
        by_cases h : mc ls ls.length ≤ 3000
        · have := mc_few ls h
          rw [decide_eq_false (by omega), decide_eq_false (by omega)]
        · have := mc_much ls ls.length (by omega)
          rw [decide_eq_true (by omega), decide_eq_true (by omega)])
      go_wp2
      go_ret
      exact ⟨ret_bool He.out, rfl⟩
end Go.Proofs.YtggijgclnnlfmaaDoor

/-
  Lists of lists; the walks of slices.Grow and slices.Concat.
-/
import Derived.Test.YthlopecllhdmhaaDoorCrcMem
import Derived.Test.YthlopecllhdmhaaDoorJoin
namespace Go.Proofs.YthlopecllhdmhaaDoor
open Go.RowKit
set_option linter.unusedVariables false

theorem Sls.nil (w : World) (A : Option Addr) (c : Nat) : Sls w (.slice A 0 c) [] := ⟨A, c, rfl, Nat.zero_le _, fun h => absurd h (by simp)⟩
/-- A new block of one slice. -/
theorem Sls.one (w : World) (e : TypeId) (v : Value) (l : List UInt8) (h : Sl w v l) : Sls (w.alloc (.cells #[v] e)) (.slice (some ⟨w.heap.size, 0, none⟩) 1 1) [l] := by
  refine ⟨_, _, rfl, Nat.le_refl _, fun _ => ⟨_, 0, rfl, fun j hj => ?_⟩⟩
  have h0 : j = 0 := by simpa using hj
  subst h0
  exact ⟨v, (Blk.new w e #[v]).cell 0, h.alloc _⟩
set_option maxHeartbeats 400000 in
theorem grow_nil (n : Nat) (w : World) (hn : n ≤ 140737488355328) :
    Calls Tryd.prog 58 #[.slice none 0 0, .int .i64 (n : Int)] w fun e w' => ∃ v', e = .returned v' ∧ Own w' w.heap.size 5 v' [] ∧ Below w.heap.size w w' := by
  obtain ⟨i0, hi, hz0, hz1, hz2⟩ := info_parts info_u8
  by_cases h0 : 0 < n
  · have happ := Lib.run_append_nil_zeros (P := Tryd.prog) w 22 3 22 5 i0 (.int .u8 0) .i64 .i64 Tryd.underlying22 Tryd.underlying3 hi hz0 n h0 (by omega) (by omega) (by rw [hz2]; omega)
    have hge := grownCap_ge w n 0 5
    have hle := grownCap_le_maxLen w n 0 5 (by unfold maxLen; omega)
    generalize grownCap w n 0 5 = cap at happ hge hle
    have hsz : (Builtin.zeroCells (Value.int .u8 0).cells n ++ Builtin.zeroCells (Value.int .u8 0).cells (cap - n)).size = cap * 1 := by simp [size_zeroCells, Value.cells]; omega
    generalize Builtin.zeroCells (Value.int .u8 0).cells n ++ Builtin.zeroCells (Value.int .u8 0).cells (cap - n) = Z at happ hsz
    have hgt : decide ((n : Int) > 0) = true := by simp; omega
    go_enter Tryd.func58, Tryd.ntmps58
    go_wp2_with (at_builtin; refine Lib.wpList_append_run _ rfl _ _ _ _ rfl _ _ rfl rfl _ _ happ ?_)
    go_ret
    exact ⟨_, rfl, World.ownsRow_made w.drew Z cap (Nat.le_refl _) hle hsz, (Below.refl _ _).drew.alloc (Nat.le_refl _) _⟩
  · obtain rfl : n = 0 := by omega
    go_enter Tryd.func58, Tryd.ntmps58
    go_wp2
    go_ret
    exact ⟨_, rfl, Own.nil, Below.refl _ _⟩

set_option maxHeartbeats 1000000 in
theorem concat_any (v : Value) (ls : List (List UInt8)) (w : World) (hs : Sls w v ls) (hl : ls.flatten.length ≤ 140737488355328) (hn : ls.length ≤ 9223372036854775807) :
    Calls Tryd.prog 54 #[v] w fun e w' => ∃ v', e = .returned v' ∧ Own w' w.heap.size 5 v' ls.flatten ∧ Below w.heap.size w w' := by
  obtain ⟨i0, hi, hz0, hz1, hz2⟩ := info_parts info_u8
  have hs' := hs
  obtain ⟨A, c, rfl, hc, ha⟩ := hs
  clear ha
  go_enter Tryd.func54, Tryd.ntmps54
  go_wp2
  go_loop [3, 11] (fun x z => ∃ k : Nat, k ≤ ls.length ∧ z = .int .i64 (k : Int) ∧ x = .int .i64 ((ls.take k).flatten.length : Int)) (fun _ z => ls.length - (intOf z).toNat)
  case atStart => exact ⟨0, Nat.zero_le _, rfl, rfl⟩
  case round =>
    obtain ⟨k, hk, rfl, rfl⟩ := hrel
    by_cases hlt : k < ls.length
    · obtain ⟨A', c', e, _, ha⟩ := hs'
      injection e with e1 e2 e3
      subst e1 e3
      obtain ⟨b, o, rfl, hx⟩ := ha (by omega)
      obtain ⟨u, hu, hsu⟩ := hx k hlt
      obtain ⟨A2, c2, rfl, _, _⟩ := hsu
      have hle := flatten_take_le ls k hlt
      have E := Lib.hid (show (ls.take (k + 1)).flatten.length = (ls.take k).flatten.length + ls[k].length by rw [flatten_take_succ ls k hlt, List.length_append])
      clear hx ha
      generalize (ls.take k).flatten.length = n at hle E ⊢
      generalize ls[k].length = m at hle E hu
      have hle2 : n + m ≤ 140737488355328 := by omega
      clear hle
      go_wp2
      go_round
      case rel => exact ⟨k + 1, by omega, by go_num, by rw [E.out]; go_num⟩
      case measure => simp [intOf]; omega
    · obtain rfl : k = ls.length := by omega
      have hL : (ls.take ls.length).flatten.length ≤ 140737488355328 := by rw [List.take_length]; exact hl
      generalize (ls.take ls.length).flatten.length = N at hL ⊢
      go_wp2_with fail
      refine ((grow_nil N _ hL).mono ?_)
      rintro e w1 ⟨v1, rfl, ho1, hb1⟩
      have Ho1 := Lib.hid ho1
      clear ho1
      go_wp2
      go_loopw [6, 27] (fun x z wr => ∃ k : Nat, k ≤ ls.length ∧ z = .int .i64 (k : Int) ∧ Own wr w.heap.size 5 x (ls.take k).flatten ∧ Below w.heap.size w wr) (fun _ z _ => ls.length - (intOf z).toNat)
      case atStart => exact ⟨0, Nat.zero_le _, rfl, by simpa using Ho1.out, hb1⟩
      case round =>
        clear Ho1 hb1 hk hlt
        obtain ⟨k, hk, rfl, ho, hb⟩ := hrel
        by_cases hlt : k < ls.length
        · obtain ⟨A', c', e, _, ha⟩ := hs'.below hb
          injection e with e1 e2 e3
          subst e1 e3
          obtain ⟨b, o, rfl, hx⟩ := ha (by omega)
          obtain ⟨u, hu, hsu⟩ := hx k hlt
          have hsu' := hsu
          obtain ⟨A2, c2, rfl, _, _⟩ := hsu
          have Hlen := Lib.hid (Nat.le_trans (flatten_take_le ls k hlt) hl)
          have hbw := hb.size
          clear hx ha hs'
          go_wp2_with (at_builtin; refine wpList_append_big _ rfl _ _ 22 rfl w.heap.size 5 i0 Tryd.underlying22 hi hz0 hz1 hz2 _ (ls.take k).flatten rfl ho _ ls[k] rfl hsu' Hlen.out hbw ?_)
          intro v' w2 ho2 hb2
          have Ho := Lib.hid ho2
          clear ho2
          go_wp2
          go_roundw
          case rel => exact ⟨k + 1, by omega, by go_num, by rw [flatten_take_succ ls k hlt]; exact Ho.out, hb.trans hb2⟩
          case measure => simp [intOf]; omega
        · obtain rfl : k = ls.length := by omega
          go_wp2
          go_ret
          rw [List.take_length] at ho
          exact ⟨_, rfl, ho, hb⟩
end Go.Proofs.YthlopecllhdmhaaDoor

/-
  The walks of slices.Grow (of nil) and slices.Concat at dots.
-/
import Derived.Test.YtoglhpcboonpeaaCtxApp
import Derived.Lib.SliceRun
import Derived.Lib.AppendZeros
namespace Go.Proofs.Ytoglhpcboonpeaa
open Go.RowKit
open CtxM
set_option linter.unusedVariables false
set_option linter.unusedSimpArgs false
set_option maxRecDepth 20000

/-- A slice of slices of dots. -/
def Sds (w : World) (v : Value) (ls : List (List Dt)) : Prop :=
  ∃ A c, v = .slice A ls.length c ∧ ls.length ≤ c ∧ (0 < ls.length → ∃ b o, A = some ⟨b, o, none⟩ ∧ ∀ j (h : j < ls.length), ∃ u, w.cell? ⟨b, o + j, none⟩ = some u ∧ Sd w u ls[j])
theorem Sds.below {w w' : World} {v : Value} {ls : List (List Dt)} (h : Sds w v ls) (hb : Below w.heap.size w w') : Sds w' v ls := by
  obtain ⟨A, c, rfl, hc, ha⟩ := h
  refine ⟨A, c, rfl, hc, fun hn => ?_⟩
  obtain ⟨b, o, rfl, hx⟩ := ha hn
  refine ⟨b, o, rfl, fun j hj => ?_⟩
  obtain ⟨u, hu, hs⟩ := hx j hj
  exact ⟨u, (hb.cell (World.block_lt_of_cell? w _ hu)).trans hu, hs.below hb⟩
theorem Sds.two (w : World) (e : TypeId) (v u : Value) (L M : List Dt) (h : Sd w v L) (k : Sd w u M) : Sds (w.alloc (.cells #[v, u] e)) (.slice (some ⟨w.heap.size, 0, none⟩) 2 2) [L, M] := by
  refine ⟨_, _, rfl, Nat.le_refl _, fun _ => ⟨_, 0, rfl, fun j hj => ?_⟩⟩
  have hj2 : j < 2 := hj
  have h01 : j = 0 ∨ j = 1 := by omega
  rcases h01 with rfl | rfl
  · exact ⟨v, (Blk.new w e #[v, u]).cell 0, h.alloc _⟩
  · exact ⟨u, (Blk.new w e #[v, u]).cell 1, k.alloc _⟩
theorem flatten_takeD_succ (ls : List (List Dt)) (k : Nat) (h : k < ls.length) : (ls.take (k + 1)).flatten = (ls.take k).flatten ++ ls[k] := by
  rw [List.take_succ_eq_append_getElem h, List.flatten_append]; simp
theorem flatten_takeD_le (ls : List (List Dt)) (k : Nat) (h : k < ls.length) : (ls.take k).flatten.length + ls[k].length ≤ ls.flatten.length := by
  have h1 := flatten_takeD_succ ls k h
  have h2 : ls.flatten = (ls.take (k + 1)).flatten ++ (ls.drop (k + 1)).flatten := by rw [← List.flatten_append, List.take_append_drop]
  have h3 := congrArg List.length h1
  have h4 := congrArg List.length h2
  rw [List.length_append] at h3 h4
  omega

set_option maxHeartbeats 400000 in
theorem growD_nil (n : Nat) (w : World) (hn : n ≤ 900000) :
    Calls Try.prog 60 #[.slice none 0 0, .int .i64 (n : Int)] w fun e w' => ∃ v', e = .returned v' ∧ OwnD w' w.heap.size v' [] ∧ Below w.heap.size w w' := by
  obtain ⟨i0, hi, hz0, hz1, hz2⟩ := info_parts info_dot
  by_cases h0 : 0 < n
  · have happ := Lib.run_append_nil_zeros (P := Try.prog) w 22 3 22 35 i0 (.agg #[.int .i64 0, .int .u64 0]) .i64 .i64 Try.underlying22 Try.underlying3 hi hz0 n h0 (by omega) (by omega) (by rw [hz2]; omega)
    have hge := grownCap_ge w n 0 35
    have hle := grownCap_le_maxLen w n 0 35 (by unfold maxLen; omega)
    generalize grownCap w n 0 35 = cap at happ hge hle
    have hsz : (Builtin.zeroCells (Value.agg #[.int .i64 0, .int .u64 0]).cells n ++ Builtin.zeroCells (Value.agg #[.int .i64 0, .int .u64 0]).cells (cap - n)).size = cap * 2 := by simp [size_zeroCells, Value.cells]; omega
    generalize Builtin.zeroCells (Value.agg #[.int .i64 0, .int .u64 0]).cells n ++ Builtin.zeroCells (Value.agg #[.int .i64 0, .int .u64 0]).cells (cap - n) = Z at happ hsz
    have hgt : decide ((n : Int) > 0) = true := by simp; omega
    go_enter Try.func60, Try.ntmps60
    go_wp2_with (at_builtin; refine Lib.wpList_append_run _ rfl _ _ _ _ rfl _ _ rfl rfl _ _ happ ?_)
    go_ret
    exact ⟨_, rfl, World.ownsRow_made w.drew Z cap (Nat.le_refl _) hle hsz, (Below.refl _ _).drew.alloc (Nat.le_refl _) _⟩
  · obtain rfl : n = 0 := by omega
    go_enter Try.func60, Try.ntmps60
    go_wp2
    go_ret
    exact ⟨_, rfl, OwnD.nil, Below.refl _ _⟩

set_option maxHeartbeats 1000000 in
theorem concatD_any (v : Value) (ls : List (List Dt)) (w : World) (hs : Sds w v ls) (hl : ls.flatten.length ≤ 900000) (hn : ls.length ≤ 9223372036854775807) :
    Calls Try.prog 49 #[v] w fun e w' => ∃ v', e = .returned v' ∧ OwnD w' w.heap.size v' ls.flatten ∧ Below w.heap.size w w' := by
  obtain ⟨i0, hi, hz0, hz1, hz2⟩ := info_parts info_dot
  have hs' := hs
  obtain ⟨A, c, rfl, hc, ha⟩ := hs
  clear ha
  go_enter Try.func49, Try.ntmps49
  go_wp2
  go_loop [3, 11] (fun x z => ∃ k : Nat, k ≤ ls.length ∧ z = .int .i64 (k : Int) ∧ x = .int .i64 ((ls.take k).flatten.length : Int)) (fun _ z => ls.length - (intOf z).toNat)
  case atStart => exact ⟨0, Nat.zero_le _, rfl, rfl⟩
  case round =>
    obtain ⟨k, hk, rfl, rfl⟩ := hrel
    by_cases hlt : k < ls.length
    · obtain ⟨A', c', e, _, ha⟩ := hs'
      injection e with e1 e2 e3
      subst e1 e3
      obtain ⟨b, o, rfl, hx⟩ := ha (by omega)
      obtain ⟨u, hu, hsu⟩ := hx k hlt
      obtain ⟨A2, c2, rfl, _, _⟩ := hsu
      have hle := flatten_takeD_le ls k hlt
      have E := Lib.hid (show (ls.take (k + 1)).flatten.length = (ls.take k).flatten.length + ls[k].length by rw [flatten_takeD_succ ls k hlt, List.length_append])
      clear hx ha
      generalize (ls.take k).flatten.length = n at hle E ⊢
      generalize ls[k].length = m at hle E hu
      have hle2 : n + m ≤ 900000 := by omega
      clear hle
      go_wp2
      go_round
      case rel => exact ⟨k + 1, by omega, by go_num, by rw [E.out]; go_num⟩
      case measure => simp [intOf]; omega
    · obtain rfl : k = ls.length := by omega
      have hL : (ls.take ls.length).flatten.length ≤ 900000 := by rw [List.take_length]; exact hl
      generalize (ls.take ls.length).flatten.length = N at hL ⊢
      go_wp2_with fail
      refine ((growD_nil N _ hL).mono ?_)
      rintro e w1 ⟨v1, rfl, ho1, hb1⟩
      have Ho1 := Lib.hid ho1
      clear ho1
      go_wp2
      go_loopw [6, 27] (fun x z wr => ∃ k : Nat, k ≤ ls.length ∧ z = .int .i64 (k : Int) ∧ OwnD wr w.heap.size x (ls.take k).flatten ∧ Below w.heap.size w wr) (fun _ z _ => ls.length - (intOf z).toNat)
      case atStart => exact ⟨0, Nat.zero_le _, rfl, by simpa using Ho1.out, hb1⟩
      case round =>
        clear Ho1 hb1 hk hlt
        obtain ⟨k, hk, rfl, ho, hb⟩ := hrel
        by_cases hlt : k < ls.length
        · obtain ⟨A', c', e, _, ha⟩ := hs'.below hb
          injection e with e1 e2 e3
          subst e1 e3
          obtain ⟨b, o, rfl, hx⟩ := ha (by omega)
          obtain ⟨u, hu, hsu⟩ := hx k hlt
          have hsu' := hsu
          obtain ⟨A2, c2, rfl, _, _⟩ := hsu
          have Hlen := Lib.hid (show (ls.take k).flatten.length + ls[k].length ≤ 1000000 by have := flatten_takeD_le ls k hlt; omega)
          have hbw := hb.size
          clear hx ha hs'
          go_wp2_with (refine wpList_append_dots _ rfl (.tmp 31) (.tmp 32) 22 rfl w.heap.size i0 Try.underlying22 hi hz0 hz1 hz2 _ (ls.take k).flatten rfl ho _ ls[k] rfl hsu' Hlen.out hbw ?_; intro v' w2 ho2 hgr _ _)
          have hb2 : Below w.heap.size w w2 := ho.grown hgr hb (Nat.le_refl _) hbw
          have Ho := Lib.hid ho2
          clear ho2
          go_wp2
          go_roundw
          case rel => exact ⟨k + 1, by omega, by go_num, by rw [flatten_takeD_succ ls k hlt]; exact Ho.out, hb2⟩
          case measure => simp [intOf]; omega
        · obtain rfl : k = ls.length := by omega
          go_wp2
          go_ret
          rw [List.take_length] at ho
          exact ⟨_, rfl, ho, hb⟩

end Go.Proofs.Ytoglhpcboonpeaa

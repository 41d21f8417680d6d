/-
  The walks of crc.table, crc.takeIn and crc.Sum.
-/
import Derived.Test.YtibifnknkphanaaGreatDoorCrcMath
import Derived.Test.YtibifnknkphanaaGreatDoorCrcMem
namespace Go.Proofs.YtibifnknkphanaaGreatDoor
open Go.RowKit
set_option linter.unusedVariables false
set_option maxRecDepth 20000

/-- A number of 32 bits, as a value. -/
def uv (n : Nat) : Value := .int .u32 (n : Int)
theorem uv_def (n : Nat) : uv n = .int .u32 (n : Int) := rfl

/-- The table, of which the first k are laid. -/
def tabL (k : Nat) : List Value := (List.range 16).map fun i => if i < k then uv (stepN 4 i) else uv 0
theorem tabL_length (k : Nat) : (tabL k).length = 16 := by simp [tabL]
theorem tabL_get (k i : Nat) (h : i < 16) : (tabL k)[i]? = some (if i < k then uv (stepN 4 i) else uv 0) := by simp [tabL, h]
theorem tabL_set (k : Nat) (h : k < 16) : (tabL k).set k (uv (stepN 4 k)) = tabL (k + 1) := by
  apply List.ext_getElem?
  intro j
  rw [List.getElem?_set]
  by_cases hj : j < 16
  · rw [tabL_get _ _ hj, tabL_get _ _ hj, tabL_length]
    by_cases e : k = j
    · subst e; simp [hj]
    · have : (j < k) = (j < k + 1) := by simp; omega
      simp [e, this]
  · rw [List.getElem?_eq_none (by rw [tabL_length]; omega), List.getElem?_eq_none (by rw [tabL_length]; omega), tabL_length]
    simp; omega
def tabA (k : Nat) : Array Value := (tabL k).toArray
theorem tabA_size (k : Nat) : (tabA k).size = 16 := by simp [tabA, tabL_length]
theorem tabA_set (k : Nat) (h : k < 16) : (tabA k).setIfInBounds k (uv (stepN 4 k)) = tabA (k + 1) := by
  apply Array.toList_inj.1
  simp [tabA, tabL_set k h]

/-- '-(s & 1)'. -/
theorem mask_any (s : Nat) (h : s < 4294967296) : bits .and .u32 2197175160 (IntKind.u32.wrap (-(bits .and .u32 (s : Int) 1))) = (if s % 2 = 1 then (poly : Int) else 0) := by
  have e1 := u32_and_nat s 1 h (by decide)
  rw [Nat.and_one_is_mod] at e1
  have e1' : bits .and .u32 (s : Int) 1 = ((s % 2 : Nat) : Int) := e1
  rw [e1']
  by_cases h1 : s % 2 = 1
  · rw [h1, if_pos rfl]; decide
  · rw [show s % 2 = 0 by omega]; decide
theorem shr1 (s : Nat) (h : s < 4294967296) : (s : Int) / 2 = ((s / 2 : Nat) : Int) := by omega
theorem step_any (s : Nat) (h : s < 4294967296) : bits .xor .u32 ((s : Int) / 2) (bits .and .u32 2197175160 (IntKind.u32.wrap (-(bits .and .u32 (s : Int) 1)))) = (stepT s : Int) := by
  rw [mask_any s h]
  unfold stepT
  split
  · exact u32_xor_nat (s / 2) poly (by omega) (by decide)
  · exact u32_xor_nat (s / 2) 0 (by omega) (by decide)

theorem info_tab : (Tryz.prog.info? 135).map (·.size) = some 16 := by kernel_rfl
theorem tabA_info (k : Nat) : (Tryz.prog.info? 135).map (·.size) = some (tabA k).size := by rw [info_tab, tabA_size]
theorem tabA_one (k : Nat) : (tabA k).all (·.oneCell') = true := by
  rw [Array.all_eq_true_iff_forall_mem]
  intro v hv
  simp only [tabA, tabL, List.mem_toArray, List.mem_map] at hv
  obtain ⟨n, _, rfl⟩ := hv
  split <;> rfl
theorem tabA_get (k i : Nat) (h : i < 16) : (tabA k)[i]? = some (if i < k then uv (stepN 4 i) else uv 0) := by simp [tabA, tabL_get k i h]
theorem u32_of_nat (k : Nat) (h : k < 4294967296) : IntKind.u32.wrap (k : Int) = (k : Int) := by rw [IntKind.wrap_u32]; omega

set_option maxHeartbeats 1000000 in
theorem table_any (w : World) : Calls Tryz.prog 92 #[] w fun e w' => e = .returned (.agg (tabA 16)) ∧ Below w.heap.size w w' := by
  go_enter Tryz.func92, Tryz.ntmps92
  go_wp2
  change Code.wp _ _ _ _ ((w.alloc (.cells (tabA 0) 135)).alloc (.cells (tabA 0) 135))
  go_loopw [5] (fun z wr => ∃ k : Nat, k ≤ 16 ∧ z = .int .i64 (k : Int) ∧ Blk wr w.heap.size 135 (tabA 0) ∧ Blk wr (w.heap.size + 1) 135 (tabA k) ∧ Below w.heap.size w wr) (fun z _ => 16 - (intOf z).toNat)
  case atStart => exact ⟨0, Nat.zero_le _, rfl, (Blk.new w _ _).alloc _, by have := Blk.new (w.alloc (.cells (tabA 0) 135)) 135 (tabA 0); simpa using this, ((Below.refl _ _).alloc (Nat.le_refl _) _).alloc (by simp) _⟩
  case round =>
    obtain ⟨k, hk, rfl, hB0, hB, hb⟩ := hrel
    by_cases hlt : k < 16
    · have hk32 : k < 4294967296 := by omega
      go_wp2
      go_loop [3, 10] (fun s j => ∃ n : Nat, n ≤ 4 ∧ j = .int .i64 (n : Int) ∧ s = .int .u32 (stepN n k : Int)) (fun _ j => 4 - (intOf j).toNat)
      case atStart => exact ⟨0, Nat.zero_le _, rfl, rfl⟩
      case round =>
        obtain ⟨n, hn, rfl, rfl⟩ := hrel
        by_cases hln : n < 4
        · have hs := stepN_lt n hk32
          have H := Lib.hid (step_any (stepN n k) hs)
          have E := Lib.hid (stepN_succ n k)
          generalize hS : stepN n k = s at hs H E
          clear hS
          go_wp2
          go_round
          case rel => refine ⟨n + 1, by omega, by go_num, ?_⟩; rw [E.out, ← H.out]; rfl
          case measure => simp [intOf]; omega
        · obtain rfl : n = 4 := by omega
          have hcell : wr.cell? ⟨w.heap.size + 1, k, none⟩ = some (uv 0) := by rw [hB.cell, tabA_get k k hlt, if_neg (by omega)]
          have hfr := hB.frozen k
          go_wp2
          go_roundw
          case rel => exact ⟨k + 1, by omega, by go_num, hB0.far (by simp) _, by rw [← tabA_set k hlt]; exact hB.set_ k _, hb.setCell (by simp) _⟩
          case measure => simp [intOf]; omega
    · obtain rfl : k = 16 := by omega
      have hth : wr.there w.heap.size 0 (tabA 16).size := by rw [tabA_size, ← tabA_size 0]; exact hB0.there
      go_wp2_with (first | (refine wpList_load_row rfl 135 _ rfl (w.heap.size + 1) rfl 135 (tabA 16) (0, 0) _ hB Tryz.underlying135 rfl (tabA_info 16) ?_) | (refine wpList_store_mid rfl 135 _ _ rfl w.heap.size 0 (tabA 16) rfl rfl hth (tabA_info 16) (tabA_one 16) ?_))
      have hE : Blk (wr.setCells w.heap.size 0 (tabA 16).toList) w.heap.size 135 (tabA 16) := hB0.setRow (by rw [tabA_size, tabA_size])
      have hgE := grown_setCells w.heap.size (tabA 16).toList 0 wr
      exact bodyPost_ret (v := .agg (tabA 16)) (results_cell_row rfl _ _ w.heap.size 135 (tabA 16) (0, 0) _ rfl hE Tryz.underlying135 rfl (tabA_info 16)) rfl ⟨rfl, Below.only hb hgE (Nat.le_refl _) hb.size⟩

theorem and15 (s : Nat) (h : s < 4294967296) : bits .and .u32 (s : Int) 15 = ((s % 16 : Nat) : Int) := by
  have e1 := u32_and_nat s 15 h (by decide)
  rw [show (15 : Nat) = 2 ^ 4 - 1 from rfl, Nat.and_two_pow_sub_one_eq_mod] at e1
  exact e1
theorem nibble_any (s : Nat) (h : s < 4294967296) : bits .xor .u32 ((s : Int) / 16) (stepN 4 (s % 16) : Int) = (stepN 4 s : Int) := by
  rw [stepN_nibble s]
  exact u32_xor_nat (s / 16) (stepN 4 (s % 16)) (by omega) (stepN_lt 4 (by omega))
theorem take_succ_sum (s : Nat) (l : List UInt8) (k : Nat) (h : k < l.length) : sumFrom s (l.take (k + 1)) = takeB (sumFrom s (l.take k)) l[k] := by
  rw [List.take_succ_eq_append_getElem h, sumFrom_snoc]
theorem xor_byte (s : Nat) (c : UInt8) (h : s < 4294967296) : bits .xor .u32 (s : Int) ((c.toNat : Int) % 4294967296) = ((s ^^^ c.toNat : Nat) : Int) := by
  rw [show (c.toNat : Int) % 4294967296 = (c.toNat : Int) by have := byte_lt c; omega]
  exact u32_xor_nat s c.toNat h (byte_lt c)

set_option maxHeartbeats 1000000 in
theorem takeIn_any (s0 : Nat) (v : Value) (l : List UInt8) (w : World) (hs0 : s0 < 4294967296) (hs : Sl w v l) (hl : l.length ≤ 140737488355328) :
    Calls Tryz.prog 93 #[.int .u32 (s0 : Int), v, .agg (tabA 16)] w fun e w' => e = .returned (.int .u32 (sumFrom s0 l : Int)) ∧ Below w.heap.size w w' := by
  have hs' := hs.alloc (.cells (tabA 16) 135)
  have hB := Blk.new w 135 (tabA 16)
  obtain ⟨A, c, rfl, hc, ha⟩ := hs
  clear ha
  go_enter Tryz.func93, Tryz.ntmps93
  go_wp2
  have hbw : Below w.heap.size w (w.alloc (.cells (tabA 16) 135)) := (Below.refl _ _).alloc (Nat.le_refl _) _
  generalize w.alloc (.cells (tabA 16) 135) = W at hs' hB hbw ⊢
  go_loop [0, 12] (fun x z => ∃ k : Nat, k ≤ l.length ∧ z = .int .i64 (k : Int) ∧ x = .int .u32 (sumFrom s0 (l.take k) : Int)) (fun _ z => l.length - (intOf z).toNat)
  case atStart => exact ⟨0, Nat.zero_le _, rfl, rfl⟩
  case round =>
    obtain ⟨k, hk, rfl, rfl⟩ := hrel
    have hS := sumFrom_lt (l.take k) hs0
    by_cases hlt : k < l.length
    · obtain ⟨A', c', e, _, ha⟩ := hs'
      injection e with e1 e2 e3
      subst e1 e3
      obtain ⟨b, o, rfl, hx⟩ := ha (by omega)
      have hcell := hx k hlt
      have E := Lib.hid (take_succ_sum s0 l k hlt)
      clear hx ha
      generalize sumFrom s0 (l.take k) = s at hS E ⊢
      have hxor := xor_byte s l[k] hS
      have hX : s ^^^ l[k].toNat < 4294967296 := Nat.xor_lt_two_pow (n := 32) hS (byte_lt _)
      go_wp2
      clear hxor
      have E2 := Lib.hid (show takeB s l[k] = stepN 8 (s ^^^ l[k].toNat) from rfl)
      generalize s ^^^ l[k].toNat = y at hX E2 ⊢
      go_loop [0, 20] (fun x j => ∃ n : Nat, n ≤ 2 ∧ j = .int .i64 (n : Int) ∧ x = .int .u32 (stepN (4 * n) y : Int)) (fun _ j => 2 - (intOf j).toNat)
      case atStart => exact ⟨0, Nat.zero_le _, rfl, rfl⟩
      case round =>
        obtain ⟨n, hn, rfl, rfl⟩ := hrel
        have hY := stepN_lt (4 * n) hX
        have E3 := Lib.hid (show stepN (4 * (n + 1)) y = stepN 4 (stepN (4 * n) y) by rw [Nat.mul_add, Nat.mul_one, stepN_add])
        by_cases hln : n < 2
        · generalize stepN (4 * n) y = x at hY E3 ⊢
          have H := Lib.hid (nibble_any x hY)
          have h15 := and15 x hY
          have hx16 : x % 16 < 16 := Nat.mod_lt _ (by decide)
          have hc2 : W.cell? ⟨w.heap.size, x % 16, none⟩ = some (.int .u32 (stepN 4 (x % 16) : Int)) := by rw [hB.cell, tabA_get 16 _ hx16, if_pos hx16]; rfl
          generalize x % 16 = y16 at h15 hx16 hc2 H
          go_wp2
          go_round
          case rel => refine ⟨n + 1, by omega, by go_num, ?_⟩; rw [E3.out, ← H.out]
          case measure => simp [intOf]; omega
        · obtain rfl : n = 2 := by omega
          go_wp2
          go_round
          case rel => exact ⟨k + 1, by omega, by go_num, by rw [E.out, E2.out]⟩
          case measure => simp [intOf]; omega
    · go_wp2
      go_ret
      exact ⟨ret_int (by rw [List.take_of_length_le (by omega)]), hbw⟩

theorem takeIn_of (T : Array Value) (hT : T = tabA 16) (s0 : Nat) (v : Value) (l : List UInt8) (w : World) (hs0 : s0 < 4294967296) (hs : Sl w v l) (hl : l.length ≤ 140737488355328) :
    Calls Tryz.prog 93 #[.int .u32 (s0 : Int), v, .agg T] w fun e w' => e = .returned (.int .u32 (sumFrom s0 l : Int)) ∧ Below w.heap.size w w' := by
  subst hT
  exact takeIn_any s0 v l w hs0 hs hl

/-- The value v is a slice of slices of bytes that reads as the lists ls. -/
def Sls (w : World) (v : Value) (ls : List (List UInt8)) : Prop :=
  ∃ A c, v = .slice A ls.length c ∧ ls.length ≤ c ∧ (0 < ls.length → ∃ b o, A = some ⟨b, o, none⟩ ∧ ∀ j (h : j < ls.length), ∃ u, w.cell? ⟨b, o + j, none⟩ = some u ∧ Sl w u ls[j])
theorem Sls.nil (w : World) (A : Option Addr) (c : Nat) : Sls w (.slice A 0 c) [] := ⟨A, c, rfl, Nat.zero_le _, fun h => absurd h (by simp)⟩
theorem Sls.below {w w' : World} {v : Value} {ls : List (List UInt8)} (h : Sls w v ls) (hb : Below w.heap.size w w') : Sls w' v ls := by
  obtain ⟨A, c, rfl, hc, ha⟩ := h
  refine ⟨A, c, rfl, hc, fun hn => ?_⟩
  obtain ⟨b, o, rfl, hx⟩ := ha hn
  refine ⟨b, o, rfl, fun j hj => ?_⟩
  obtain ⟨u, hu, hs⟩ := hx j hj
  exact ⟨u, (hb.cell (World.block_lt_of_cell? w _ hu)).trans hu, hs.below hb⟩
/-- A new block of one slice. -/
theorem Sls.one (w : World) (e : TypeId) (v : Value) (l : List UInt8) (h : Sl w v l) : Sls (w.alloc (.cells #[v] e)) (.slice (some ⟨w.heap.size, 0, none⟩) 1 1) [l] := by
  refine ⟨_, _, rfl, Nat.le_refl _, fun _ => ⟨_, 0, rfl, fun j hj => ?_⟩⟩
  have h0 : j = 0 := by simpa using hj
  subst h0
  exact ⟨v, (Blk.new w e #[v]).cell 0, h.alloc _⟩
theorem flatten_take_succ (ls : List (List UInt8)) (k : Nat) (h : k < ls.length) : (ls.take (k + 1)).flatten = (ls.take k).flatten ++ ls[k] := by
  rw [List.take_succ_eq_append_getElem h, List.flatten_append]; simp
theorem flatten_take_le (ls : List (List UInt8)) (k : Nat) (h : k < ls.length) : (ls.take k).flatten.length + ls[k].length ≤ ls.flatten.length := by
  have h1 := flatten_take_succ ls k h
  have h2 : ls.flatten = (ls.take (k + 1)).flatten ++ (ls.drop (k + 1)).flatten := by rw [← List.flatten_append, List.take_append_drop]
  have h3 := congrArg List.length h1
  have h4 := congrArg List.length h2
  rw [List.length_append] at h3 h4
  omega

theorem not_any (n : Nat) (h : n < 4294967296) : bits .xor .u32 IntKind.u32.max (n : Int) = ((4294967295 - n : Nat) : Int) := by
  rw [ones_sub h]
  exact u32_xor_nat 4294967295 n (by decide) h

set_option maxHeartbeats 1000000 in
theorem sum_any (v : Value) (ls : List (List UInt8)) (w : World) (hs : Sls w v ls) (hl : ls.flatten.length ≤ 140737488355328) (hn : ls.length ≤ 9223372036854775807) :
    Calls Tryz.prog 45 #[v] w fun e w' => e = .returned (.int .u32 (crcN ls.flatten : Int)) ∧ Below w.heap.size w w' := by
  have hs' := hs
  obtain ⟨A, c, rfl, hc, ha⟩ := hs
  clear ha
  go_enter Tryz.func45, Tryz.ntmps45
  go_wp2_with fail
  refine (table_any _).mono ?_
  rintro e w1 ⟨rfl, hb1⟩
  obtain ⟨T, eT⟩ : ∃ T, T = tabA 16 := ⟨_, rfl⟩
  have hTs : T.size = 16 := by rw [eT, tabA_size]
  have hTi : (Tryz.prog.info? 135).map (·.size) = some T.size := by rw [eT, tabA_info]
  have hT1 : T.all (·.oneCell') = true := by rw [eT]; exact tabA_one 16
  rw [← eT]
  have ET := Lib.hid eT
  clear eT
  have hB0 := Blk.new w1 135 (tabA 0)
  have hth : (w1.alloc (.cells (tabA 0) 135)).there w1.heap.size 0 T.size := by rw [hTs, ← tabA_size 0]; exact hB0.there
  have hsz := hb1.size
  go_wp2_with (refine wpList_store_mid rfl 135 _ _ rfl w1.heap.size 0 T rfl rfl hth hTi hT1 ?_)
  have hE : Blk ((w1.alloc (.cells (tabA 0) 135)).setCells w1.heap.size 0 T.toList) w1.heap.size 135 T := hB0.setRow (by rw [hTs, tabA_size])
  have hbE : Below w.heap.size w ((w1.alloc (.cells (tabA 0) 135)).setCells w1.heap.size 0 T.toList) := Below.only (hb1.alloc hsz _) (grown_setCells _ _ _ _) hsz (by simp; omega)
  change Code.wp _ _ _ _ ((w1.alloc (.cells (tabA 0) 135)).setCells w1.heap.size 0 T.toList)
  generalize (w1.alloc (.cells (tabA 0) 135)).setCells w1.heap.size 0 T.toList = W at hE hbE ⊢
  clear hth hB0 hb1
  generalize w1.heap.size = g at hE hsz ⊢
  go_loopw [3, 10] (fun x z wr => ∃ k : Nat, k ≤ ls.length ∧ z = .int .i64 (k : Int) ∧ x = .int .u32 (sumFrom 4294967295 (ls.take k).flatten : Int) ∧ Blk wr g 135 T ∧ Below w.heap.size w wr) (fun _ z _ => ls.length - (intOf z).toNat)
  case atStart => exact ⟨0, Nat.zero_le _, rfl, rfl, hE, hbE⟩
  case round =>
    clear hE hbE
    obtain ⟨k, hk, rfl, rfl, hE, hb⟩ := hrel
    have hS := sumFrom_lt (ls.take k).flatten (s := 4294967295) (by decide)
    by_cases hlt : k < ls.length
    · obtain ⟨A', c', e, _, ha⟩ := hs'.below hb
      injection e with e1 e2 e3
      subst e1 e3
      obtain ⟨b, o, rfl, hx⟩ := ha (by omega)
      obtain ⟨u, hu, hsu⟩ := hx k hlt
      have hsu' := hsu
      obtain ⟨A2, c2, rfl, _, _⟩ := hsu
      have hlk : ls[k].length ≤ 140737488355328 := by have := flatten_take_le ls k hlt; omega
      have E := Lib.hid (show sumFrom 4294967295 (ls.take (k + 1)).flatten = sumFrom (sumFrom 4294967295 (ls.take k).flatten) ls[k] by rw [flatten_take_succ ls k hlt, sumFrom_append])
      clear hx ha hs'
      generalize sumFrom 4294967295 (ls.take k).flatten = s at hS E ⊢
      go_wp2_with (refine wpList_load_row rfl 135 _ rfl g rfl 135 T (0, 0) _ hE Tryz.underlying135 rfl hTi ?_)
      refine (takeIn_of T ET.out s _ ls[k] _ hS hsu' hlk).mono ?_
      rintro e w2 ⟨rfl, hb2⟩
      go_wp2
      go_roundw
      case rel => exact ⟨k + 1, by omega, by go_num, by rw [E.out], hE.below hb2 hE.lt, hb.trans (hb2.mono hb.size)⟩
      case measure => simp [intOf]; omega
    · obtain rfl : k = ls.length := by omega
      go_wp2
      go_ret
      rw [List.take_length] at *
      exact ⟨ret_int (not_any _ hS), hb⟩
end Go.Proofs.YtibifnknkphanaaGreatDoor

/-
  The walks of slices.Grow (of nil), slices.Concat, slices.Clone, crc.Close, crc.Residue, crc.Open.
-/
import Derived.Test.YtbglghjmcjdmeaaCrcSum
import Derived.Lib.SliceRun
namespace Go.Proofs.Ytbglghjmcjdmeaa
open Go.RowKit
set_option linter.unusedVariables false

set_option maxHeartbeats 400000 in
theorem grow_nil (n : Nat) (w : World) (hn : n ≤ 140737488355328) :
    Calls Try.prog 21 #[.slice none 0 0, .int .i64 (n : Int)] w fun e w' => ∃ v', e = .returned v' ∧ Own w' w.heap.size 5 v' [] ∧ Below w.heap.size w w' := by
  obtain ⟨i0, hi, hz0, hz1, hz2⟩ := info_parts info_u8
  by_cases h0 : 0 < n
  · have happ := Lib.run_append_nil_zeros (P := Try.prog) w 23 3 23 5 i0 (.int .u8 0) .i64 .i64 Try.underlying23 Try.underlying3 hi hz0 n h0 (by omega) (by omega) (by rw [hz2]; omega)
    have hge := grownCap_ge w n 0 5
    have hle := grownCap_le_maxLen w n 0 5 (by unfold maxLen; omega)
    generalize grownCap w n 0 5 = cap at happ hge hle
    have hsz : (Builtin.zeroCells (Value.int .u8 0).cells n ++ Builtin.zeroCells (Value.int .u8 0).cells (cap - n)).size = cap * 1 := by simp [size_zeroCells, Value.cells]; omega
    generalize Builtin.zeroCells (Value.int .u8 0).cells n ++ Builtin.zeroCells (Value.int .u8 0).cells (cap - n) = Z at happ hsz
    have hgt : decide ((n : Int) > 0) = true := by simp; omega
    go_enter Try.func21, Try.ntmps21
    go_wp2_with (at_builtin; refine Lib.wpList_append_run _ rfl _ _ _ _ rfl _ _ rfl rfl _ _ happ ?_)
    go_ret
    exact ⟨_, rfl, World.ownsRow_made w.drew Z cap (Nat.le_refl _) hle hsz, (Below.refl _ _).drew.alloc (Nat.le_refl _) _⟩
  · obtain rfl : n = 0 := by omega
    go_enter Try.func21, Try.ntmps21
    go_wp2
    go_ret
    exact ⟨_, rfl, Own.nil, Below.refl _ _⟩

set_option maxHeartbeats 1000000 in
theorem concat_any (v : Value) (ls : List (List UInt8)) (w : World) (hs : Sls w v ls) (hl : ls.flatten.length ≤ 140737488355328) (hn : ls.length ≤ 9223372036854775807) :
    Calls Try.prog 16 #[v] w fun e w' => ∃ v', e = .returned v' ∧ Own w' w.heap.size 5 v' ls.flatten ∧ Below w.heap.size w w' := by
  obtain ⟨i0, hi, hz0, hz1, hz2⟩ := info_parts info_u8
  have hs' := hs
  obtain ⟨A, c, rfl, hc, ha⟩ := hs
  clear ha
  go_enter Try.func16, Try.ntmps16
  go_wp2
  go_loop [3, 11] (fun x z => ∃ k : Nat, k ≤ ls.length ∧ z = .int .i64 (k : Int) ∧ x = .int .i64 ((ls.take k).flatten.length : Int)) (fun _ z => ls.length - (intOf z).toNat)
  case atStart => exact ⟨0, Nat.zero_le _, rfl, rfl⟩
  case round =>
    obtain ⟨k, hk, rfl, rfl⟩ := hrel
    by_cases hlt : k < ls.length
    · obtain ⟨A', c', e, _, ha⟩ := hs'
      injection e with e1 e2 e3
      subst e1 e3
      obtain ⟨b, o, rfl, hx⟩ := ha (by omega)
      obtain ⟨u, hu, hsu⟩ := hx k hlt
      obtain ⟨A2, c2, rfl, _, _⟩ := hsu
      have hle := flatten_take_le ls k hlt
      have E := Lib.hid (show (ls.take (k + 1)).flatten.length = (ls.take k).flatten.length + ls[k].length by rw [flatten_take_succ ls k hlt, List.length_append])
      clear hx ha
      generalize (ls.take k).flatten.length = n at hle E ⊢
      generalize ls[k].length = m at hle E hu
      have hle2 : n + m ≤ 140737488355328 := by omega
      clear hle
      go_wp2
      go_round
      case rel => exact ⟨k + 1, by omega, by go_num, by rw [E.out]; go_num⟩
      case measure => simp [intOf]; omega
    · obtain rfl : k = ls.length := by omega
      have hL : (ls.take ls.length).flatten.length ≤ 140737488355328 := by rw [List.take_length]; exact hl
      generalize (ls.take ls.length).flatten.length = N at hL ⊢
      go_wp2_with fail
      refine ((grow_nil N _ hL).mono ?_)
      rintro e w1 ⟨v1, rfl, ho1, hb1⟩
      have Ho1 := Lib.hid ho1
      clear ho1
      go_wp2
      go_loopw [6, 27] (fun x z wr => ∃ k : Nat, k ≤ ls.length ∧ z = .int .i64 (k : Int) ∧ Own wr w.heap.size 5 x (ls.take k).flatten ∧ Below w.heap.size w wr) (fun _ z _ => ls.length - (intOf z).toNat)
      case atStart => exact ⟨0, Nat.zero_le _, rfl, by simpa using Ho1.out, hb1⟩
      case round =>
        clear Ho1 hb1 hk hlt
        obtain ⟨k, hk, rfl, ho, hb⟩ := hrel
        by_cases hlt : k < ls.length
        · obtain ⟨A', c', e, _, ha⟩ := hs'.below hb
          injection e with e1 e2 e3
          subst e1 e3
          obtain ⟨b, o, rfl, hx⟩ := ha (by omega)
          obtain ⟨u, hu, hsu⟩ := hx k hlt
          have hsu' := hsu
          obtain ⟨A2, c2, rfl, _, _⟩ := hsu
          have Hlen := Lib.hid (Nat.le_trans (flatten_take_le ls k hlt) hl)
          have hbw := hb.size
          clear hx ha hs'
          go_wp2_with (at_builtin; refine wpList_append_big _ rfl _ _ 23 rfl w.heap.size 5 i0 Try.underlying23 hi hz0 hz1 hz2 _ (ls.take k).flatten rfl ho _ ls[k] rfl hsu' Hlen.out hbw ?_)
          intro v' w2 ho2 hb2
          have Ho := Lib.hid ho2
          clear ho2
          go_wp2
          go_roundw
          case rel => exact ⟨k + 1, by omega, by go_num, by rw [flatten_take_succ ls k hlt]; exact Ho.out, hb.trans hb2⟩
          case measure => simp [intOf]; omega
        · obtain rfl : k = ls.length := by omega
          go_wp2
          go_ret
          rw [List.take_length] at ho
          exact ⟨_, rfl, ho, hb⟩

set_option maxHeartbeats 400000 in
/-- slices.Clone. -/
theorem clone_any (v : Value) (l : List UInt8) (w : World) (hs : Sl w v l) (hl : l.length ≤ 140737488355328) :
    Calls Try.prog 20 #[v] w fun e w' => ∃ v', e = .returned v' ∧ Own w' w.heap.size 5 v' l ∧ Below w.heap.size w w' := by
  obtain ⟨i0, hi, hz0, hz1, hz2⟩ := info_parts info_u8
  have hs' := hs
  obtain ⟨A, c, rfl, hc, ha⟩ := hs
  have heq := fun (w : World) (a : Option Addr) (n c : Nat) => Lib.run_eql_slice_nil (P := Try.prog) w 23 5 a n c 0 0 Try.underlying23
  cases A with
  | none =>
    have h0 : l = [] := by
      rcases Nat.eq_zero_or_pos l.length with h0 | h0
      · exact List.eq_nil_of_length_eq_zero h0
      · obtain ⟨b, o, h, _⟩ := ha h0
        cases h
    subst h0
    clear ha
    go_enter Try.func20, Try.ntmps20
    go_wp2
    go_ret
    exact ⟨_, rfl, Own.nil, Below.refl _ _⟩
  | some ad =>
    clear ha
    have Ho := Lib.hid (Own.of_new w w.heap.size 5 #[] [] 0 (Nat.le_refl _) rfl rfl (by simp))
    have Hl := Lib.hid (show ([] : List UInt8).length + l.length ≤ 140737488355328 by simp; omega)
    go_enter Try.func20, Try.ntmps20
    go_wp2_with (at_builtin; refine wpList_append_big _ rfl _ _ 23 rfl w.heap.size 5 i0 Try.underlying23 hi hz0 hz1 hz2 _ [] rfl Ho.out _ l rfl (hs'.alloc _) Hl.out (by simp) ?_)
    intro v2 w2 ho2 hb2
    have Ho2 := Lib.hid ho2
    clear ho2
    go_wp2
    go_ret
    exact ⟨_, rfl, Ho2.out, ((Below.refl _ _).alloc (Nat.le_refl _) _).trans hb2⟩

theorem le4_take_succ (n k : Nat) (h : k < 4) : (le4 n).take (k + 1) = (le4 n).take k ++ [UInt8.ofNat (n / 256 ^ k % 256)] := by
  match k, h with
  | 0, _ => simp [le4]
  | 1, _ => simp [le4]
  | 2, _ => simp [le4]
  | 3, _ => simp [le4]
theorem div_succ (n k : Nat) : n / 256 ^ k / 256 = n / 256 ^ (k + 1) := by rw [Nat.pow_succ, Nat.div_div_eq_div_mul]

set_option maxHeartbeats 1000000 in
theorem close_any (v : Value) (ls : List (List UInt8)) (w : World) (hs : Sls w v ls) (hl : ls.flatten.length + 4 ≤ 140737488355328) (hn : ls.length ≤ 9223372036854775807) :
    Calls Try.prog 9 #[v] w fun e w' => ∃ v', e = .returned v' ∧ Own w' w.heap.size 5 v' (closeB ls.flatten) ∧ Below w.heap.size w w' := by
  obtain ⟨i0, hi, hz0, hz1, hz2⟩ := info_parts info_u8
  have hs' := hs
  obtain ⟨A, c, rfl, hc, ha⟩ := hs
  clear ha
  go_enter Try.func9, Try.ntmps9
  go_wp2_with fail
  refine (concat_any _ ls _ hs' (by omega) hn).mono ?_
  rintro e w1 ⟨v1, rfl, ho1, hb1⟩
  obtain ⟨A1, n1, c1, rfl⟩ := ho1.shape
  have Ho1 := Lib.hid ho1
  clear ho1 hs'
  go_wp2_with fail
  refine (sum_any _ [ls.flatten] _ (Sls.one w1 _ _ _ Ho1.out.sl) (by simp; simp at hl; omega) (by simp)).mono ?_
  rintro e w2 ⟨rfl, hb2⟩
  have Ho2 := Lib.hid ((Ho1.out.alloc _).below hb2 (Nat.le_refl _))
  have hb3 : Below w.heap.size w w2 := (hb1.alloc hb1.size _).trans (hb2.mono (by simp; have := hb1.size; omega))
  clear Ho1 hb1 hb2
  have hN := crcN_lt ls.flatten
  have e1 : [ls.flatten].flatten = ls.flatten := by simp
  rw [e1]
  clear e1
  obtain ⟨L, N, E, hl, hN, Ho2, eN⟩ : ∃ L N, Hid (closeB ls.flatten = L ++ le4 N) ∧ L.length + 4 ≤ 140737488355328 ∧ N < 4294967296 ∧ Hid (Own w2 w.heap.size 5 (.slice A1 n1 c1) L) ∧ crcN ls.flatten = N :=
    ⟨ls.flatten, crcN ls.flatten, Lib.hid rfl, hl, hN, Ho2, rfl⟩
  rw [eN]
  clear eN
  go_wp2
  go_loopw [3, 4, 10] (fun x y z wr => ∃ k : Nat, k ≤ 4 ∧ z = .int .i64 (k : Int) ∧ y = .int .u32 ((N / 256 ^ k : Nat) : Int) ∧ Own wr w.heap.size 5 x (L ++ (le4 N).take k) ∧ Below w.heap.size w wr) (fun _ _ z _ => 4 - (intOf z).toNat)
  case atStart => exact ⟨0, Nat.zero_le _, rfl, by simp, by simpa using Ho2.out, hb3⟩
  case round =>
    clear Ho2 hb3
    obtain ⟨k, hk, rfl, rfl, ho, hb⟩ := hrel
    by_cases hlt : k < 4
    · have hbw := hb.size
      have Hlen := Lib.hid (show (L ++ (le4 N).take k).length + [UInt8.ofNat (N / 256 ^ k % 256)].length ≤ 140737488355328 by simp [le4_length]; omega)
      have D := Lib.hid (div_succ N k)
      have T := Lib.hid (le4_take_succ N k hlt)
      have hM : N / 256 ^ k < 4294967296 := Nat.lt_of_le_of_lt (Nat.div_le_self _ _) hN
      have hsl : ∀ (W : World), Sl (W.alloc (.cells #[.int .u8 (((N / 256 ^ k : Nat) : Int) % 256)] 5)) (.slice (some ⟨W.heap.size, 0, none⟩) 1 1) [UInt8.ofNat (N / 256 ^ k % 256)] :=
        fun W => Sl.one W _ _ _ (by rw [u8_toNat]; omega)
      have Hsl := Lib.hid hsl
      clear hsl
      generalize N / 256 ^ k = M at hM Hlen D T Hsl ⊢
      go_wp2_with (at_builtin; refine wpList_append_big _ rfl _ _ 23 rfl w.heap.size 5 i0 Try.underlying23 hi hz0 hz1 hz2 _ (L ++ (le4 N).take k) rfl (ho.alloc _) _ _ rfl (Hsl.out _) Hlen.out (by simp; omega) ?_)
      intro v' w2 ho2 hb2
      have Ho := Lib.hid ho2
      clear ho2
      go_wp2
      go_roundw
      case rel => refine ⟨k + 1, by omega, by go_num, ?_, ?_, (hb.alloc hbw _).trans hb2⟩
                  · rw [← D.out]; go_num
                  · rw [T.out]; exact Ho.out
      case measure => simp [intOf]; omega
    · obtain rfl : k = 4 := by omega
      go_wp2
      go_ret
      rw [List.take_of_length_le (by simp [le4_length]), ← E.out] at ho
      exact ⟨_, rfl, ho, hb⟩

theorem residue_any (w : World) : Calls Try.prog 13 #[] w fun e w' => e = .returned (.int .u32 (resN : Int)) ∧ Below w.heap.size w w' := by
  go_enter Try.func13, Try.ntmps13
  go_wp2_with fail
  refine (close_any _ [] _ (Sls.nil w none 0) (by decide) (by decide)).mono ?_
  rintro e w1 ⟨v1, rfl, ho1, hb1⟩
  obtain ⟨A1, n1, c1, rfl⟩ := ho1.shape
  have Ho1 := Lib.hid ho1
  clear ho1
  go_wp2_with fail
  refine (sum_any _ [closeB []] _ (Sls.one w1 _ _ _ Ho1.out.sl) (by decide +kernel) (by decide)).mono ?_
  rintro e w2 ⟨rfl, hb2⟩
  have E := Lib.hid (crcN_close [])
  go_wp2
  go_ret
  exact ⟨ret_int (by rw [E.out]), (hb1.alloc hb1.size _).trans (hb2.mono (by simp; have := hb1.size; omega))⟩

/-- A beginning of a slice. -/
theorem Sl.begin {w : World} {A : Option Addr} {n c : Nat} {l : List UInt8} (h : Sl w (.slice A n c) l) (m : Nat) (hm : m ≤ n) (c' : Nat) (hc' : m ≤ c') : Sl w (.slice A m c') (l.take m) := by
  have hn := h.len
  obtain ⟨A', c2, e, _, ha⟩ := h
  injection e with e1 e2 e3
  subst e1
  have hl : (l.take m).length = m := by rw [List.length_take]; omega
  refine ⟨A, c', by rw [hl], by rw [hl]; exact hc', fun h0 => ?_⟩
  rw [hl] at h0
  obtain ⟨b, o, rfl, hx⟩ := ha (by omega)
  exact ⟨b, o, rfl, fun j hj => by rw [hx j (by rw [hl] at hj; omega), List.getElem_take]⟩

set_option maxHeartbeats 400000 in
/-- Open, of bytes that are closed. -/
theorem open_yes (v : Value) (l : List UInt8) (w : World) (hs : Sl w v l) (hl : l.length ≤ 140737488355328) (h4 : 4 ≤ l.length) (hc : crcN l = resN) :
    Calls Try.prog 14 #[v] w fun e w' => ∃ v', e = .returned (.tuple #[v', .bool true]) ∧ Own w' w.heap.size 5 v' (l.take (l.length - 4)) ∧ Below w.heap.size w w' := by
  have hs' := hs
  obtain ⟨A, c, rfl, hcc, ha⟩ := hs
  clear ha
  have HC := Lib.hid hc
  clear hc
  go_enter Try.func14, Try.ntmps14
  go_wp2_with fail
  refine (sum_any _ [l] _ (Sls.one w _ _ _ hs') (by simpa using hl) (by simp)).mono ?_
  rintro e w1 ⟨rfl, hb1⟩
  rw [show crcN [l].flatten = resN by rw [show [l].flatten = l by simp, HC.out]]
  have hb1' : Below w.heap.size w w1 := ((Below.refl _ _).alloc (Nat.le_refl _) _).trans (hb1.mono (by simp))
  have hs1 := hs'.below hb1'
  clear hb1 hs'
  go_wp2_with fail
  refine (residue_any _).mono ?_
  rintro e w2 ⟨rfl, hb2⟩
  have hs2 := hs1.below hb2
  have hb2' := hb1'.trans (hb2.mono hb1'.size)
  clear hb2 hb1' hs1
  have hsz := hb2'.size
  have hb4 := hs2.begin (l.length - 4) (by omega) c (by omega)
  have Hcl := Lib.hid (clone_any _ (l.take (l.length - 4)) w2 hb4 (by simp; omega))
  clear hb4
  go_wp2_with fail
  refine Hcl.out.mono ?_
  rintro e w3 ⟨v3, rfl, ho3, hb3⟩
  have Ho3 := Lib.hid ho3
  clear ho3 Hcl
  go_wp2
  go_ret2
  exact ⟨_, rfl, Ho3.out.mono hsz, hb2'.trans (hb3.mono hsz)⟩

set_option maxHeartbeats 400000 in
/-- Open, of bytes that are not. -/
theorem open_no (v : Value) (l : List UInt8) (w : World) (hs : Sl w v l) (hl : l.length ≤ 140737488355328) (hc : 4 ≤ l.length → crcN l ≠ resN) :
    Calls Try.prog 14 #[v] w fun e w' => e = .returned (.tuple #[.slice none 0 0, .bool false]) ∧ Below w.heap.size w w' := by
  have hs' := hs
  obtain ⟨A, c, rfl, hcc, ha⟩ := hs
  clear ha
  by_cases h4 : 4 ≤ l.length
  · have HC := Lib.hid (hc h4)
    clear hc
    go_enter Try.func14, Try.ntmps14
    go_wp2_with fail
    refine (sum_any _ [l] _ (Sls.one w _ _ _ hs') (by simpa using hl) (by simp)).mono ?_
    rintro e w1 ⟨rfl, hb1⟩
    rw [show crcN [l].flatten = crcN l by rw [show [l].flatten = l by simp]]
    have hb1' : Below w.heap.size w w1 := ((Below.refl _ _).alloc (Nat.le_refl _) _).trans (hb1.mono (by simp))
    clear hb1 hs'
    go_wp2_with fail
    refine (residue_any _).mono ?_
    rintro e w2 ⟨rfl, hb2⟩
    have hb2' := hb1'.trans (hb2.mono hb1'.size)
    clear hb2 hb1'
    have hne : ((crcN l : Int) != (resN : Int)) = true := by have := HC.out; simp; omega
    have hne2 : ((crcN l : Int) == (resN : Int)) = false := by have := HC.out; simp; omega
    generalize crcN l = X at hne hne2 ⊢
    generalize resN = Y at hne hne2 ⊢
    go_wp2
    go_ret2
    exact ⟨rfl, hb2'⟩
  · clear hc
    go_enter Try.func14, Try.ntmps14
    go_wp2
    go_ret2
    exact ⟨rfl, Below.refl _ _⟩
end Go.Proofs.Ytbglghjmcjdmeaa

/-
  The walks of bits.RotateLeft32 and of sha.rotated with what it answers.
-/
import Derived.Test.YthlopecllhdmhaaDoorShaMath
import Derived.Test.YthlopecllhdmhaaDoorCrcMem
namespace Go.Proofs.YthlopecllhdmhaaDoor
open Go.RowKit
set_option linter.unusedVariables false

/-- A number of 32 bits, as a value. -/
def uv (n : Nat) : Value := .int .u32 (n : Int)
theorem far_any (n : Nat) (h1 : 1 ≤ n) (h2 : n ≤ 31) : bits .and .u64 ((18446744073709551616 - n : Nat) : Int) 31 = ((32 - n : Nat) : Int) := by
  have e1 := u64_and_nat (18446744073709551616 - n) 31 (by omega) (by decide)
  rw [show (31 : Nat) = 2 ^ 5 - 1 from rfl, Nat.and_two_pow_sub_one_eq_mod] at e1
  rw [show (18446744073709551616 - n) % 2 ^ 5 = 32 - n by omega] at e1
  exact e1

set_option maxHeartbeats 400000 in
theorem rotl_any (x n : Nat) (z : Int) (w : World) (hz : IntKind.u64.wrap z = ((18446744073709551616 - n : Nat) : Int)) (hx : x < 4294967296) (h1 : 1 ≤ n) (h2 : n ≤ 31) :
    Calls Tryd.prog 60 #[.int .u32 (x : Int), .int .i64 z] w fun e w' => e = .returned (.int .u32 (rorN x n : Int)) ∧ w = w' := by
  have H := far_any n h1 h2
  have hm : 32 - n ≤ 31 := by omega
  have E := Lib.hid (show rorN x n = (x * 2 ^ (32 - n) % 4294967296) ||| (x / 2 ^ (32 - (32 - n))) by rw [show 32 - (32 - n) = n by omega]; rfl)
  generalize 32 - n = m at H hm E
  generalize 18446744073709551616 - n = y at H hz
  go_enter Tryd.func60, Tryd.ntmps60
  go_wp2
  go_ret
  refine ⟨ret_int ?_, rfl⟩
  rw [E.out]
  have := u32_or_nat (x * 2 ^ m % 4294967296) (x / 2 ^ (32 - m)) (Nat.mod_lt _ (by decide)) (Nat.lt_of_le_of_lt (Nat.div_le_self _ _) hx)
  rw [← this]
  simp only [Int.natCast_emod, Int.natCast_mul, Int.natCast_pow, Int.natCast_ediv]
  rfl

/-- The value v is a slice that reads as the numbers ns in the world w. -/
def Sns (w : World) (v : Value) (ns : List Nat) : Prop :=
  ∃ b c, v = .slice (some ⟨b, 0, none⟩) ns.length c ∧ ns.length ≤ c ∧ ∀ j (h : j < ns.length), w.cell? ⟨b, j, none⟩ = some (.int .i64 (ns[j] : Int))
theorem rots_take (x : Nat) (ns : List Nat) (k : Nat) (h : k < ns.length) : rots x (ns.take (k + 1)) = rots x (ns.take k) ^^^ rorN x ns[k] := by
  unfold rots; rw [List.take_succ_eq_append_getElem h, List.foldl_append]; rfl

theorem wrap_far (n : Nat) (h1 : 1 ≤ n) (h2 : n ≤ 31) : IntKind.u64.wrap (-(n : Int)) = ((18446744073709551616 - n : Nat) : Int) := by
  rw [IntKind.wrap_u64]; omega
set_option maxHeartbeats 400000 in
theorem rotc_any (x : Nat) (ns : List Nat) (v : Value) (p : Addr) (w : World) (hx : x < 4294967296) (hp : w.cell? p = some (.int .u32 (x : Int))) (hns : Sns w v ns) (hn : ∀ n ∈ ns, 1 ≤ n ∧ n ≤ 31) (hl : ns.length ≤ 3) :
    Calls Tryd.prog 59 #[v, .pointer (some p)] w fun e w' => e = .returned (.int .u32 (rots x ns : Int)) ∧ w = w' := by
  obtain ⟨b, c, rfl, hc, ha⟩ := hns
  go_enter Tryd.func59, Tryd.ntmps59
  go_wp2
  go_loop [4, 9] (fun s i => ∃ k : Nat, k ≤ ns.length ∧ i = .int .i64 (k : Int) ∧ s = .int .u32 (rots x (ns.take k) : Int)) (fun _ i => ns.length - (intOf i).toNat)
  case atStart => exact ⟨0, Nat.zero_le _, rfl, rfl⟩
  case round =>
    obtain ⟨k, hk, rfl, rfl⟩ := hrel
    by_cases hlt : k < ns.length
    · have hcell := ha k hlt
      have hb := hn _ (List.getElem_mem hlt)
      have E := Lib.hid (rots_take x ns k hlt)
      have hs := rots_lt x (ns.take k) hx
      clear ha hn
      generalize ns[k] = n at hcell hb E
      generalize rots x (ns.take k) = s at hs E ⊢
      go_wp2_with fail
      refine (rotl_any x n (-(n : Int)) w (wrap_far n hb.1 hb.2) hx hb.1 hb.2).mono ?_
      rintro e w' ⟨rfl, rfl⟩
      have hr := rorN_lt x n hx
      have EX := Lib.hid (u32_xor_nat s (rorN x n) hs hr)
      generalize rorN x n = r at hr E EX ⊢
      go_wp2
      go_round
      case rel => exact ⟨k + 1, by omega, by go_num, by rw [EX.out, E.out]⟩
      case measure => simp [intOf]; omega
    · go_wp2
      go_ret
      exact ⟨ret_int (by rw [List.take_of_length_le (by omega)]), rfl⟩

theorem rotated_any (x : Nat) (w : World) :
    Calls Tryd.prog 56 #[.int .u32 (x : Int)] w fun e w' => e = .returned (Value.func (.func 59) #[] #[.pointer (some ⟨w.heap.size, 0, none⟩)]) ∧ w' = w.alloc (.cells #[.int .u32 (x : Int)] 72) := by
  go_enter Tryd.func56, Tryd.ntmps56
  go_wp2
  go_ret
  exact ⟨rfl, rfl⟩
theorem Sns.new (w : World) (e : TypeId) (C : Array Value) (ns : List Nat) (n : Nat) (hn : n = ns.length) (hC : C.toList = ns.map (fun n : Nat => Value.int .i64 (n : Int))) : Sns (w.alloc (.cells C e)) (.slice (some ⟨w.heap.size, 0, none⟩) n n) ns := by
  subst hn
  refine ⟨_, _, rfl, Nat.le_refl _, fun j hj => ?_⟩
  rw [(Blk.new w e C).cell j, ← Array.getElem?_toList, hC]
  simp [hj]
/-- What is rotated, and by how far, just made. -/
theorem rot_new (x : Nat) (ns : List Nat) (C : Array Value) (n : Nat) (w : World) (hx : x < 4294967296) (hn : n = ns.length) (hC : C.toList = ns.map (fun n : Nat => Value.int .i64 (n : Int))) (hs : ∀ n ∈ ns, 1 ≤ n ∧ n ≤ 31) (hl : ns.length ≤ 3) :
    Calls Tryd.prog 59 #[.slice (some ⟨w.heap.size + 1, 0, none⟩) n n, .pointer (some ⟨w.heap.size, 0, none⟩)] ((w.alloc (.cells #[.int .u32 (x : Int)] 72)).alloc (.cells C 3))
      fun e w' => e = .returned (.int .u32 (rots x ns : Int)) ∧ (w.alloc (.cells #[.int .u32 (x : Int)] 72)).alloc (.cells C 3) = w' := by
  have h1 := Sns.new (w.alloc (.cells #[.int .u32 (x : Int)] 72)) 3 C ns n hn hC
  rw [show (w.alloc (.cells #[.int .u32 (x : Int)] 72)).heap.size = w.heap.size + 1 by simp] at h1
  exact rotc_any x ns _ _ _ hx (((Blk.new w 72 #[.int .u32 (x : Int)]).alloc _).cell 0) h1 hs hl
theorem below_two {B : Nat} {a w : World} (h : Below B a w) (hB : B ≤ w.heap.size) (o1 o2 : Obj) : Below B a ((w.alloc o1).alloc o2) := (h.alloc hB _).alloc (by simp; omega) _
end Go.Proofs.YthlopecllhdmhaaDoor

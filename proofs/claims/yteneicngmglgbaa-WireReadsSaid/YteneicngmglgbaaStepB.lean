/-
  The walk of minsterlaw01.step where it reads bytes, and writes into what it was handed.
-/
import Derived.Test.YteneicngmglgbaaStepW
namespace Go.Proofs.Yteneicngmglgbaa.RB
open Go.RowKit
set_option linter.unusedVariables false
set_option linter.unusedSimpArgs false

set_option maxHeartbeats 2000000 in
theorem step_bytes (g h : Nat) (N : Int) (str : ByteArray) (w : World) (hh : h < w.heap.size) (P Q : Option Addr → Nat → World → Prop)
    (hw : Calls Try.prog 40 #[.pointer (some ⟨g, 0, none⟩), .int .i64 N] (boxed w 5 N) fun e w' => ∃ A n, e = .returned (.slice A n n) ∧ P A n w' ∧ Box w' w.heap.size N)
    (hc : ∀ A n w1 w', P A n w1 → KB h w1 w' → (convert 23 9 (.slice A n n)).run Try.prog w' = .ok (.string str) w')
    (hr : ∀ A n w1, P A n w1 → Calls Try.prog 49 #[.pointer (some ⟨h, 0, none⟩), .int .i64 N] w1.drew fun e w' => ∃ v2, e = .returned v2 ∧ KB h w1.drew w' ∧ Q A n w' ∧ ∀ w'', KB h w' w'' → (convert 23 9 v2).run Try.prog w'' = .ok (.string str) w'')
    (hn : ∀ A n w1, Q A n w1 → n ≤ 9000)
    (hst : ∀ A n wr k, Q A n wr → k < n → ∃ b o, ∃ c : UInt8, A = some ⟨b, o, none⟩ ∧ wr.cell? ⟨b, o + k, none⟩ = some (.int .u8 (c.toNat : Int)) ∧ wr.frozen? ⟨b, o + k, none⟩ = false ∧ Q A n (wr.setCell ⟨b, o + k, none⟩ (.int .u8 (((c.toNat : Int) + 1) % 256)))) :
    Calls Try.prog 30 #[.pointer (some ⟨g, 0, none⟩), .pointer (some ⟨h, 0, none⟩), .agg #[.int .i64 5, .int .i64 N]] w fun e w' => e = .returned (.bool true) ∧ ∃ A n, Q A n w' := by
  have HW := Lib.hid hw
  have HR := Lib.hid hr
  have HC := Lib.hid hc
  have HN := Lib.hid hn
  have HS := Lib.hid hst
  clear hw hr hc hn hst
  have hbx : Box (boxed w 5 N) w.heap.size N := (Blk.new w 62 #[.int .i64 5, .int .i64 N]).cell 1
  have hbx' : (boxed w 5 N).cell? ⟨w.heap.size, 1, none⟩ = some (.int .i64 N) := hbx
  go_enter Try.func30, Try.ntmps30
  go_wp2_with fail
  refine HW.out.mono ?_
  rintro e w1 ⟨A1, n1, rfl, hp1, hb1⟩
  have hcv : ∀ w', KB h w1.drew w' → (convert 23 9 (.slice A1 n1 n1)).run Try.prog w' = .ok (.string str) w' := fun w' hk => HC.out A1 n1 w1 w' hp1 hk
  have hBox : ∀ w', KB h w1.drew w' → Box w' w.heap.size N := fun w' hk => hk _ _ (show w.heap.size ≠ h by omega) hb1
  have HR1 := Lib.hid (HR.out A1 n1 w1 hp1)
  clear HW HR HC hbx hbx' hp1 hb1
  go_wp2_with fail
  refine heldB_begin h (by kernel_rfl) ?_
  generalize w1.drew = W at hcv hBox HR1 ⊢
  refine' wpAnyH_take (i := 0) (oi := ⟨some 52, _, _, _, _, _⟩) (v := _) rfl (by kernel_rfl) (by kernel_rfl) (by kernel_rfl) (fun _ _ _ h => h) (Or.inl ⟨by rfl, ?y0⟩) (KB.refl _ _) ?r0
  case y0 => (intro w' hSw; go_simp; try rfl)
  try simp only [Act.put, List.setIfInBounds_toArray, List.set_cons_zero, List.set_cons_succ]
  refine' wpAnyH_take (i := 1) (oi := ⟨some 53, _, _, _, _, _⟩) (v := _) rfl (by kernel_rfl) (by kernel_rfl) (by kernel_rfl) (fun _ _ _ h => h) (Or.inl ⟨by rfl, ?y1⟩) (KB.refl _ _) ?r1
  case y1 => (intro w' hSw; have q1 := hcv w' hSw; go_simp; try rfl)
  try simp only [Act.put, List.setIfInBounds_toArray, List.set_cons_zero, List.set_cons_succ]
  refine' wpAnyH_take (i := 2) (oi := ⟨some 54, _, _, _, _, _⟩) (v := _) rfl (by kernel_rfl) (by kernel_rfl) (by kernel_rfl) (fun _ _ _ h => h) (Or.inl ⟨by rfl, ?y2⟩) (KB.refl _ _) ?r2
  case y2 => (intro w' hSw; go_simp; try rfl)
  try simp only [Act.put, List.setIfInBounds_toArray, List.set_cons_zero, List.set_cons_succ]
  refine' wpAnyH_take (i := 3) (oi := ⟨some 55, _, _, _, _, _⟩) (v := _) rfl (by kernel_rfl) (by kernel_rfl) (by kernel_rfl) (fun _ _ _ h => h) (Or.inl ⟨by rfl, ?y3⟩) (KB.refl _ _) ?r3
  case y3 => (intro w' hSw; go_simp; try rfl)
  try simp only [Act.put, List.setIfInBounds_toArray, List.set_cons_zero, List.set_cons_succ]
  refine' wpAnyH_take (i := 4) (oi := ⟨some 56, _, _, _, _, _⟩) (v := _) rfl (by kernel_rfl) (by kernel_rfl) (by kernel_rfl) (fun _ _ _ h => h) (Or.inl ⟨by rfl, ?y4⟩) (KB.refl _ _) ?r4
  case y4 => (intro w' hSw; have hbw : w'.cell? ⟨w.heap.size, 1, none⟩ = some (.int .i64 N) := hBox w' hSw; go_simp; try rfl)
  try simp only [Act.put, List.setIfInBounds_toArray, List.set_cons_zero, List.set_cons_succ]
  clear hcv hBox
  refine held_one (i := 5) (by kernel_rfl) rfl (fun K hK => ?_)
  go_simp
  refine HR1.out.mono ?_
  rintro e w2 ⟨v2, rfl, hk2, hq2, hc2⟩
  clear HR1
  refine hK.out _ _ hk2 (fun _ => ?_)
  clear hK K
  refine heldB_next hk2 ?_
  refine' wpAnyH_take (i := 6) (oi := ⟨some 58, _, _, _, _, _⟩) (v := _) rfl (by kernel_rfl) (by kernel_rfl) (by kernel_rfl) (fun _ _ _ h => h) (Or.inl ⟨by rfl, ?y6⟩) (KB.refl _ _) ?r6
  case y6 => (intro w' hSw; have q6 := hc2 w' hSw; go_simp; try rfl)
  try simp only [Act.put, List.setIfInBounds_toArray, List.set_cons_zero, List.set_cons_succ]
  refine' wpAnyH_take (i := 7) (oi := ⟨some 59, _, _, _, _, _⟩) (v := _) rfl (by kernel_rfl) (by kernel_rfl) (by kernel_rfl) (fun _ _ _ h => h) (Or.inl ⟨by rfl, ?y7⟩) (KB.refl _ _) ?r7
  case y7 => (intro w' hSw; go_simp; try rfl)
  try simp only [Act.put, List.setIfInBounds_toArray, List.set_cons_zero, List.set_cons_succ]
  refine' wpAnyH_take (i := 8) (oi := ⟨some 8, _, _, _, _, _⟩) (v := _) rfl (by kernel_rfl) (by kernel_rfl) (by kernel_rfl) (fun _ _ _ h => h) (Or.inl ⟨by rfl, ?y8⟩) (KB.refl _ _) ?r8
  case y8 => (intro w' hSw; go_simp; try rfl)
  try simp only [Act.put, List.setIfInBounds_toArray, List.set_cons_zero, List.set_cons_succ]
  refine wpAnyH_done (by kernel_rfl) ?_ _
  clear hc2 hk2
  have HQ := Lib.hid hq2
  clear hq2
  go_wp2
  have hn1 : n1 ≤ 9000 := HN.out _ _ _ HQ.out
  go_loopw [9] (fun z wr => ∃ k : Nat, k ≤ n1 ∧ z = .int .i64 (k : Int) ∧ Q A1 n1 wr) (fun z _ => n1 - (intOf z).toNat)
  case atStart => exact ⟨0, Nat.zero_le _, rfl, HQ.out⟩
  case round =>
    obtain ⟨k, hk, rfl, hq⟩ := hrel
    by_cases hlt : k < n1
    · obtain ⟨b, o, c, rfl, hcell, hfr, hq'⟩ := HS.out _ _ _ k hq hlt
      have HQ' := Lib.hid hq'
      clear hq' hq
      go_wp2
      go_roundw
      case rel => exact ⟨k + 1, by omega, by go_num, HQ'.out⟩
      case measure => simp [intOf]; omega
    · have HQ2 := Lib.hid hq
      clear hq
      go_wp2
      go_ret
      exact ⟨rfl, _, _, HQ2.out⟩
end Go.Proofs.Yteneicngmglgbaa.RB

/-
  The walk of CtxNil.
-/
import Derived.Test.YtihegikilidofaaCtxNon
import Derived.Test.YtihegikilidofaaCtxKnown
namespace Go.Proofs.Ytihegikilidofaa
open Go.RowKit
open CtxM
set_option linter.unusedVariables false
set_option linter.unusedSimpArgs false
set_option maxRecDepth 20000

theorem cov_zero : covB zeros [] zeros [] = true := by
  rw [covB_of (by decide)]
  simp

set_option maxHeartbeats 4000000 in
theorem lawNil (w : World) : Calls Try.prog 7 #[] w fun e w' => e = .returned (.bool true) ∧ Below w.heap.size w w' := by
  go_enter Try.func7, Try.ntmps7
  have b0 : Blk ((w.alloc (.cells #[.bool false, .int .u64 0, .int .u64 0, .int .u64 0, .int .u64 0, .int .u64 0, .int .u64 0, .int .u64 0, .int .u64 0, .int .u64 0, .int .u64 0, .int .u64 0, .int .u64 0, .int .u64 0, .int .u64 0, .int .u64 0, .int .u64 0, .slice none 0 0] 62)).alloc (.cells #[.pointer none, .pointer (some ⟨w.heap.size, 0, none⟩)] 24)) w.heap.size 62 #[.bool false, .int .u64 0, .int .u64 0, .int .u64 0, .int .u64 0, .int .u64 0, .int .u64 0, .int .u64 0, .int .u64 0, .int .u64 0, .int .u64 0, .int .u64 0, .int .u64 0, .int .u64 0, .int .u64 0, .int .u64 0, .int .u64 0, .slice none 0 0] := (Blk.new w _ _).alloc _
  have b1 : Blk ((w.alloc (.cells #[.bool false, .int .u64 0, .int .u64 0, .int .u64 0, .int .u64 0, .int .u64 0, .int .u64 0, .int .u64 0, .int .u64 0, .int .u64 0, .int .u64 0, .int .u64 0, .int .u64 0, .int .u64 0, .int .u64 0, .int .u64 0, .int .u64 0, .slice none 0 0] 62)).alloc (.cells #[.pointer none, .pointer (some ⟨w.heap.size, 0, none⟩)] 24)) (w.heap.size + 1) 24 #[.pointer none, .pointer (some ⟨w.heap.size, 0, none⟩)] := by
    have := Blk.new (w.alloc (.cells #[.bool false, .int .u64 0, .int .u64 0, .int .u64 0, .int .u64 0, .int .u64 0, .int .u64 0, .int .u64 0, .int .u64 0, .int .u64 0, .int .u64 0, .int .u64 0, .int .u64 0, .int .u64 0, .int .u64 0, .int .u64 0, .int .u64 0, .slice none 0 0] 62)) 24 #[.pointer none, .pointer (some ⟨w.heap.size, 0, none⟩)]
    rw [show (w.alloc (.cells #[.bool false, .int .u64 0, .int .u64 0, .int .u64 0, .int .u64 0, .int .u64 0, .int .u64 0, .int .u64 0, .int .u64 0, .int .u64 0, .int .u64 0, .int .u64 0, .int .u64 0, .int .u64 0, .int .u64 0, .int .u64 0, .int .u64 0, .slice none 0 0] 62)).heap.size = w.heap.size + 1 by simp] at this
    exact this
  have bb : Below w.heap.size w ((w.alloc (.cells #[.bool false, .int .u64 0, .int .u64 0, .int .u64 0, .int .u64 0, .int .u64 0, .int .u64 0, .int .u64 0, .int .u64 0, .int .u64 0, .int .u64 0, .int .u64 0, .int .u64 0, .int .u64 0, .int .u64 0, .int .u64 0, .int .u64 0, .slice none 0 0] 62)).alloc (.cells #[.pointer none, .pointer (some ⟨w.heap.size, 0, none⟩)] 24)) := ((Below.refl _ _).alloc (Nat.le_refl _) _).alloc (by simp) _
  have bc := b0.cell 0
  have hve : ∀ w, (Op.equalIn 10000 52 (.agg (uqs zeros)) (.agg #[.int .u64 0, .int .u64 0, .int .u64 0, .int .u64 0, .int .u64 0, .int .u64 0, .int .u64 0, .int .u64 0, .int .u64 0, .int .u64 0, .int .u64 0, .int .u64 0, .int .u64 0, .int .u64 0, .int .u64 0, .int .u64 0])).run Try.prog w = .ok true w := fun w => by
    have := vec_eq zeros zeros rfl rfl w
    rw [decide_eq_true rfl] at this
    exact this
  go_wp2
  generalize ((w.alloc (.cells #[.bool false, .int .u64 0, .int .u64 0, .int .u64 0, .int .u64 0, .int .u64 0, .int .u64 0, .int .u64 0, .int .u64 0, .int .u64 0, .int .u64 0, .int .u64 0, .int .u64 0, .int .u64 0, .int .u64 0, .int .u64 0, .int .u64 0, .slice none 0 0] 62)).alloc (.cells #[.pointer none, .pointer (some ⟨w.heap.size, 0, none⟩)] 24)) = W0 at b0 b1 bb bc ⊢
  go_loopw [3] (fun z wr => ∃ i : Nat, z = .int .i64 (i : Int) ∧ i ≤ 2 ∧ Blk wr (w.heap.size + 1) 24 #[.pointer none, .pointer (some ⟨w.heap.size, 0, none⟩)] ∧ wr.cell? ⟨w.heap.size, 0, none⟩ = some (.bool false) ∧ Below w.heap.size w wr) (fun z _ => 2 - (intOf z).toNat)
  case atStart => exact ⟨0, rfl, by omega, b1, bc, bb⟩
  case round =>
    clear b0 b1 bc bb
    obtain ⟨i, rfl, hi, hB, hC, hb⟩ := hrel
    have c0 := hB.cell 0
    have c1 := hB.cell 1
    simp only [List.getElem?_toArray, List.getElem?_cons_zero, List.getElem?_cons_succ] at c0 c1
    rcases (by omega : i = 0 ∨ i = 1 ∨ i = 2) with rfl | rfl | rfl
    · have hr : Below wr.heap.size wr wr := Below.refl _ _
      have hN : Non wr (.pointer none) := .inl rfl
      go_wp2_with fail
      refine (add_non (.pointer none) (1, 1) wr hN).mono ?_
      rintro e w1 ⟨rfl, hb1⟩
      replace hN := hN.below hb1
      replace hb := hb.trans (hb1.mono hb.size)
      replace hr := hr.trans (hb1.mono hr.size)
      clear hb1
      go_wp2_with fail
      refine (next_non (.pointer none) 1 w1 hN).mono ?_
      rintro e w2 ⟨rfl, hw⟩
      rw [hw]
      clear hw w2
      go_wp2_with fail
      refine (new_any w1).mono ?_
      rintro e w2 ⟨rfl, hc2, hb2⟩
      replace hN := hN.below hb2
      replace hb := hb.trans (hb2.mono hb.size)
      replace hr := hr.trans (hb2.mono hr.size)
      clear hb2
      go_wp2_with fail
      refine (join_non (.pointer none) _ w2 (.inl hN) (.inl hN)).mono ?_
      rintro e w3 ⟨rfl, hw⟩
      rw [hw]
      clear hw w3
      clear hc2
      go_wp2_with fail
      refine (new_any w2).mono ?_
      rintro e w3 ⟨rfl, hc3, hb3⟩
      replace hN := hN.below hb3
      replace hb := hb.trans (hb3.mono hb.size)
      replace hr := hr.trans (hb3.mono hr.size)
      clear hb3
      go_wp2_with fail
      refine (join_non _ (.pointer none) w3 (.inr hN) (.inr ⟨_, _, _, _, rfl, hc3⟩)).mono ?_
      rintro e w4 ⟨rfl, hw⟩
      rw [hw]
      clear hw w4
      clear hc3
      go_wp2_with fail
      refine (has_non (.pointer none) (1, 1) w3 hN).mono ?_
      rintro e w4 ⟨rfl, hb4⟩
      replace hN := hN.below hb4
      replace hb := hb.trans (hb4.mono hb.size)
      replace hr := hr.trans (hb4.mono hr.size)
      clear hb4
      go_wp2_with fail
      refine (vector_non (.pointer none) w4 hN).mono ?_
      rintro e w5 ⟨rfl, hb5⟩
      replace hN := hN.below hb5
      replace hb := hb.trans (hb5.mono hb.size)
      replace hr := hr.trans (hb5.mono hr.size)
      clear hb5
      go_wp2_with fail
      refine (extra_non (.pointer none) w5 hN).mono ?_
      rintro e w6 ⟨rfl, hw⟩
      rw [hw]
      clear hw w6
      go_wp2_with fail
      refine (copy_non (.pointer none) w5 hN).mono ?_
      rintro e w6 ⟨rfl, hw⟩
      rw [hw]
      clear hw w6
      go_wp2_with fail
      refine (same_non (.pointer none) _ w5 hN (.inl rfl)).mono ?_
      rintro e w6 ⟨rfl, hw⟩
      rw [hw]
      clear hw w6
      go_wp2_with fail
      refine (new_any w5).mono ?_
      rintro e w6 ⟨rfl, hc6, hb6⟩
      replace hN := hN.below hb6
      replace hb := hb.trans (hb6.mono hb.size)
      replace hr := hr.trans (hb6.mono hr.size)
      clear hb6
      go_wp2_with fail
      refine (same_half (.pointer none) _ _ _ _ w6 hN hc6).mono ?_
      rintro e w7 ⟨rfl, hw⟩
      rw [hw]
      clear hw w7
      clear hc6
      go_wp2_with fail
      refine (covers_nil (.pointer none) _ w6 ⟨_, rfl⟩ (.inl rfl)).mono ?_
      rintro e w7 ⟨rfl, hb7⟩
      replace hN := hN.below hb7
      replace hb := hb.trans (hb7.mono hb.size)
      replace hr := hr.trans (hb7.mono hr.size)
      clear hb7
      go_wp2_with fail
      refine (new_any w7).mono ?_
      rintro e w8 ⟨rfl, hc8, hb8⟩
      replace hN := hN.below hb8
      replace hb := hb.trans (hb8.mono hb.size)
      replace hr := hr.trans (hb8.mono hr.size)
      clear hb8
      go_wp2_with fail
      refine (covers_non _ _ _ _ _ w8 hN hc8 (by decide)).mono ?_
      rintro e w9 ⟨rfl, hb9⟩
      rw [cov_zero]
      go_wp2
      replace hr := hr.trans (hb9.mono hr.size)
      exact ⟨⟨1, by go_num, by omega, hB.below hr hB.lt, (hr.cell (World.block_lt_of_cell? wr _ hC)).trans hC, hb.trans (hb9.mono hb.size)⟩, by simp [intOf]⟩
    · have hr : Below wr.heap.size wr wr := Below.refl _ _
      have hN : Non wr (.pointer (some ⟨w.heap.size, 0, none⟩)) := .inr ⟨_, rfl, hC⟩
      go_wp2_with fail
      refine (add_non (.pointer (some ⟨w.heap.size, 0, none⟩)) (1, 1) wr hN).mono ?_
      rintro e w1 ⟨rfl, hb1⟩
      replace hN := hN.below hb1
      replace hb := hb.trans (hb1.mono hb.size)
      replace hr := hr.trans (hb1.mono hr.size)
      clear hb1
      go_wp2_with fail
      refine (next_non (.pointer (some ⟨w.heap.size, 0, none⟩)) 1 w1 hN).mono ?_
      rintro e w2 ⟨rfl, hw⟩
      rw [hw]
      clear hw w2
      go_wp2_with fail
      refine (new_any w1).mono ?_
      rintro e w2 ⟨rfl, hc2, hb2⟩
      replace hN := hN.below hb2
      replace hb := hb.trans (hb2.mono hb.size)
      replace hr := hr.trans (hb2.mono hr.size)
      clear hb2
      go_wp2_with fail
      refine (join_non (.pointer (some ⟨w.heap.size, 0, none⟩)) _ w2 (.inl hN) (.inl hN)).mono ?_
      rintro e w3 ⟨rfl, hw⟩
      rw [hw]
      clear hw w3
      clear hc2
      go_wp2_with fail
      refine (new_any w2).mono ?_
      rintro e w3 ⟨rfl, hc3, hb3⟩
      replace hN := hN.below hb3
      replace hb := hb.trans (hb3.mono hb.size)
      replace hr := hr.trans (hb3.mono hr.size)
      clear hb3
      go_wp2_with fail
      refine (join_non _ (.pointer (some ⟨w.heap.size, 0, none⟩)) w3 (.inr hN) (.inr ⟨_, _, _, _, rfl, hc3⟩)).mono ?_
      rintro e w4 ⟨rfl, hw⟩
      rw [hw]
      clear hw w4
      clear hc3
      go_wp2_with fail
      refine (has_non (.pointer (some ⟨w.heap.size, 0, none⟩)) (1, 1) w3 hN).mono ?_
      rintro e w4 ⟨rfl, hb4⟩
      replace hN := hN.below hb4
      replace hb := hb.trans (hb4.mono hb.size)
      replace hr := hr.trans (hb4.mono hr.size)
      clear hb4
      go_wp2_with fail
      refine (vector_non (.pointer (some ⟨w.heap.size, 0, none⟩)) w4 hN).mono ?_
      rintro e w5 ⟨rfl, hb5⟩
      replace hN := hN.below hb5
      replace hb := hb.trans (hb5.mono hb.size)
      replace hr := hr.trans (hb5.mono hr.size)
      clear hb5
      go_wp2_with fail
      refine (extra_non (.pointer (some ⟨w.heap.size, 0, none⟩)) w5 hN).mono ?_
      rintro e w6 ⟨rfl, hw⟩
      rw [hw]
      clear hw w6
      go_wp2_with fail
      refine (copy_non (.pointer (some ⟨w.heap.size, 0, none⟩)) w5 hN).mono ?_
      rintro e w6 ⟨rfl, hw⟩
      rw [hw]
      clear hw w6
      go_wp2_with fail
      refine (same_non (.pointer (some ⟨w.heap.size, 0, none⟩)) _ w5 hN (.inl rfl)).mono ?_
      rintro e w6 ⟨rfl, hw⟩
      rw [hw]
      clear hw w6
      go_wp2_with fail
      refine (new_any w5).mono ?_
      rintro e w6 ⟨rfl, hc6, hb6⟩
      replace hN := hN.below hb6
      replace hb := hb.trans (hb6.mono hb.size)
      replace hr := hr.trans (hb6.mono hr.size)
      clear hb6
      go_wp2_with fail
      refine (same_half (.pointer (some ⟨w.heap.size, 0, none⟩)) _ _ _ _ w6 hN hc6).mono ?_
      rintro e w7 ⟨rfl, hw⟩
      rw [hw]
      clear hw w7
      clear hc6
      go_wp2_with fail
      refine (covers_nil (.pointer (some ⟨w.heap.size, 0, none⟩)) _ w6 ⟨_, rfl⟩ (.inl rfl)).mono ?_
      rintro e w7 ⟨rfl, hb7⟩
      replace hN := hN.below hb7
      replace hb := hb.trans (hb7.mono hb.size)
      replace hr := hr.trans (hb7.mono hr.size)
      clear hb7
      go_wp2_with fail
      refine (new_any w7).mono ?_
      rintro e w8 ⟨rfl, hc8, hb8⟩
      replace hN := hN.below hb8
      replace hb := hb.trans (hb8.mono hb.size)
      replace hr := hr.trans (hb8.mono hr.size)
      clear hb8
      go_wp2_with fail
      refine (covers_non _ _ _ _ _ w8 hN hc8 (by decide)).mono ?_
      rintro e w9 ⟨rfl, hb9⟩
      rw [cov_zero]
      go_wp2
      replace hr := hr.trans (hb9.mono hr.size)
      exact ⟨⟨2, by go_num, by omega, hB.below hr hB.lt, (hr.cell (World.block_lt_of_cell? wr _ hC)).trans hC, hb.trans (hb9.mono hb.size)⟩, by simp [intOf]⟩
    · go_wp2_with fail
      refine (known_any wr).mono ?_
      rintro e w' ⟨rfl, hb2⟩
      go_wp2
      go_ret
      exact ⟨rfl, hb.trans (hb2.mono hb.size)⟩
end Go.Proofs.Ytihegikilidofaa

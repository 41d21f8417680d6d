/-
  The walks of sha.Text.
-/
import Derived.Test.YtggijgclnnlfmaaDoorHexPlain
import Derived.Test.YtggijgclnnlfmaaDoorShaVecs
namespace Go.Proofs.YtggijgclnnlfmaaDoor
open Go.RowKit
set_option linter.unusedVariables false
set_option linter.unusedSimpArgs false

/-- 'a[i]' of an array of bytes by value. -/
theorem index_rowB (t : TypeId) (n : Nat) (cs : Array Value) (i : Nat) (v : Value) (w : World) (h : Tryd.prog.underlying t = some (.array n 5)) (hi : i < n) (hv : cs[i]? = some v) :
    (Instr.index t (.agg cs) (.int .i64 (i : Int))).run Tryd.prog w = .ok v w := by
  have hn : (0 : Int) ≤ (i : Int) ∧ (i : Int) < (n : Int) := by omega
  obtain ⟨y, hy, hys⟩ := Option.map_eq_some_iff.1 size_u8
  simp [Instr.index, run_underlying h, asIntOf, hn, part, isAgg, run_underlying Tryd.underlying5, sizeOf, typeInfo, hy, hys, hv, hi]

set_option maxHeartbeats 1000000 in
theorem text_any (l : List UInt8) (w : World) (hl : l.length = 32) :
    Calls Tryd.prog 17 #[.agg (rowB l)] w fun e w' => e = .returned (.string ⟨(hexB l).toArray⟩) ∧ Below w.heap.size w w' := by
  obtain ⟨i0, hi, hz0, hz1, hz2⟩ := info_parts info_u8
  have hmk : ∀ u : World, (Instr.makeSlice 25 (.int .i64 0) (.int .i64 64)).run Tryd.prog u =
      .ok (.slice (some ⟨u.heap.size, 0, none⟩) 0 64) (u.alloc (.cells (madeCells #[.int .u8 0] 64) 5)) := fun u => by
    have h := run_make (P := Tryd.prog) u 25 5 i0 (.int .u8 0) Tryd.underlying25 hi hz0 .i64 .i64 0 64 (by omega) (by omega) (by rw [hz2]; omega) (by omega)
    simpa [hz1, Value.cells] using h
  have hri := rowB_info hl
  have hrg := rowB_get l
  have hB := Blk.new w 28 (rowB l)
  have hbw : Below w.heap.size w (w.alloc (.cells (rowB l) 28)) := (Below.refl _ _).alloc (Nat.le_refl _) _
  generalize rowB l = T at hri hrg hB hbw ⊢
  have HRG := Lib.hid hrg
  clear hrg
  go_enter Tryd.func17, Tryd.ntmps17
  go_upto_region 1 with (fail)
  generalize w.alloc (.cells T 28) = W0 at hB hbw ⊢
  go_wp2_with (refine wpList_load_row rfl 28 _ rfl w.heap.size rfl 28 T (0, 0) _ (hB.alloc _) Tryd.underlying28 rfl hri ?_)
  clear hmk
  have ho0 := Own.made W0 5 64 (by decide)
  have hb0 := hbw.alloc hbw.size (.cells (madeCells #[.int .u8 0] 64) 5)
  have ho1 : Own (W0.alloc (.cells (madeCells #[.int .u8 0] 64) 5)) w.heap.size 5 (.slice (some ⟨W0.heap.size, 0, none⟩) 0 64) [] := ho0.mono hbw.size
  generalize W0.alloc (.cells (madeCells #[.int .u8 0] 64) 5) = W1 at ho1 hb0 ⊢
  clear ho0 hB hbw
  go_loopw [3, 8] (fun x z wr => ∃ k : Nat, k ≤ 32 ∧ z = .int .i64 (k : Int) ∧ Own wr w.heap.size 5 x (hexB (l.take k)) ∧ Below w.heap.size w wr) (fun _ z _ => 32 - (intOf z).toNat)
  case atStart => exact ⟨0, Nat.zero_le _, rfl, ho1, hb0⟩
  case round =>
    clear ho1 hb0
    obtain ⟨k, hk, rfl, ho, hb⟩ := hrel
    by_cases hlt32 : k < 32
    · have hlt : k < l.length := by omega
      have hix : ∀ w : World, (Instr.index 28 (.agg T) (.int .i64 (k : Int))).run Tryd.prog w = .ok (.int .u8 (l[k].toNat : Int)) w := fun w => index_rowB _ 32 T k _ w Tryd.underlying28 hlt32 (HRG.out k hlt)
      have hcl : l[k].toNat < 256 := UInt8.toNat_lt _
      obtain ⟨p, hp⟩ : ∃ p : Nat, l[k].toNat / 16 = p := ⟨_, rfl⟩
      obtain ⟨q, hq⟩ : ∃ q : Nat, l[k].toNat % 16 = q := ⟨_, rfl⟩
      have hp16 : p < 16 := by omega
      have hq16 : q < 16 := by omega
      go_wp2_with fail
      have hod : Own wr.drew w.heap.size 5 u3 (hexB (l.take k)) := ho.drew
      refine wp_region_held_drew (S := fun _ => True) (by kernel_rfl) trivial (fun _ => ?_)
      refine' wpAnyH_take (i := 0) (oi := ⟨some 11, _, _, _, _, _⟩) (v := _) rfl (by kernel_rfl) (by kernel_rfl) (by kernel_rfl) (fun _ _ _ h => h) (Or.inl ⟨by rfl, ?y0⟩) trivial ?r0
      case y0 => (intro w' hSw; go_simp; try rfl)
      try simp only [Act.put, List.setIfInBounds_toArray, List.set_cons_zero, List.set_cons_succ]
      refine' wpAnyH_take (i := 1) (oi := ⟨some 12, _, _, _, _, _⟩) (v := _) rfl (by kernel_rfl) (by kernel_rfl) (by kernel_rfl) (fun _ _ _ h => h) (Or.inl ⟨by rfl, ?y1⟩) trivial ?r1
      case y1 => (intro w' hSw; go_simp; try rfl)
      try simp only [Act.put, List.setIfInBounds_toArray, List.set_cons_zero, List.set_cons_succ]
      refine' wpAnyH_take (i := 2) (oi := ⟨some 13, _, _, _, _, _⟩) (v := .int .u8 (p : Int)) rfl (by kernel_rfl) (by kernel_rfl) (by kernel_rfl) (fun _ _ _ h => h) (Or.inl ⟨by rfl, ?y2⟩) trivial ?r2
      case y2 => (intro w' hSw; go_simp; try (subst hp; go_simp))
      try simp only [Act.put, List.setIfInBounds_toArray, List.set_cons_zero, List.set_cons_succ]
      refine' wpAnyH_take (i := 3) (oi := ⟨some 14, _, _, _, _, _⟩) (v := .int .u8 ((dig p).toNat : Int)) rfl (by kernel_rfl) (by kernel_rfl) (by kernel_rfl) (fun _ _ _ h => h) (Or.inl ⟨by rfl, ?y3⟩) trivial ?r3
      case y3 => (intro w' hSw; clear hp; (have hh := sixteen hp16; clear hp16; rcases hh with hh | hh | hh | hh | hh | hh | hh | hh | hh | hh | hh | hh | hh | hh | hh | hh <;> subst hh <;> (refine Eq.trans ?_ rfl; kernel_rfl)))
      try simp only [Act.put, List.setIfInBounds_toArray, List.set_cons_zero, List.set_cons_succ]
      refine' wpAnyH_take (i := 4) (oi := ⟨some 15, _, _, _, _, _⟩) (v := _) rfl (by kernel_rfl) (by kernel_rfl) (by kernel_rfl) (fun _ _ _ h => h) (Or.inl ⟨by rfl, ?y4⟩) trivial ?r4
      case y4 => (intro w' hSw; go_simp; try rfl)
      try simp only [Act.put, List.setIfInBounds_toArray, List.set_cons_zero, List.set_cons_succ]
      refine' wpAnyH_take (i := 5) (oi := ⟨some 16, _, _, _, _, _⟩) (v := .int .u8 (q : Int)) rfl (by kernel_rfl) (by kernel_rfl) (by kernel_rfl) (fun _ _ _ h => h) (Or.inl ⟨by rfl, ?y5⟩) trivial ?r5
      case y5 => (intro w' hSw; have hbits := bits_low l[k]; rw [hq] at hbits; go_simp; try rw [hbits])
      try simp only [Act.put, List.setIfInBounds_toArray, List.set_cons_zero, List.set_cons_succ]
      refine' wpAnyH_take (i := 6) (oi := ⟨some 17, _, _, _, _, _⟩) (v := .int .u8 ((dig q).toNat : Int)) rfl (by kernel_rfl) (by kernel_rfl) (by kernel_rfl) (fun _ _ _ h => h) (Or.inl ⟨by rfl, ?y6⟩) trivial ?r6
      case y6 => (intro w' hSw; clear hq; (have hh := sixteen hq16; clear hq16; rcases hh with hh | hh | hh | hh | hh | hh | hh | hh | hh | hh | hh | hh | hh | hh | hh | hh <;> subst hh <;> (refine Eq.trans ?_ rfl; kernel_rfl)))
      try simp only [Act.put, List.setIfInBounds_toArray, List.set_cons_zero, List.set_cons_succ]
      refine held_one (i := 7) (by kernel_rfl) rfl (fun K hK => ?_)
      go_simp
      have hbl : Below wr.heap.size wr (wr.alloc (.cells #[.int .u8 ((dig p).toNat : Int), .int .u8 ((dig q).toNat : Int)] 5)).drew := ((Below.refl _ _).alloc (Nat.le_refl _) _).drew
      have hlen : (hexB (l.take k)).length + [dig p, dig q].length ≤ 1000000000 := by rw [hexB_length]; simp only [List.length_take, List.length_cons, List.length_nil]; omega
      refine hK.out _ _ trivial (fun _ => ?_)
      clear hK K
      refine held_one (i := 8) (by kernel_rfl) rfl (fun K hK => ?_)
      refine step_append_bytes2 _ rfl _ _ 25 rfl w.heap.size 5 i0 Tryd.underlying25 hi hz0 hz1 hz2 u3 (hexB (l.take k)) (by rfl) (ho.alloc _).drew _ [dig p, dig q] (by rfl) (Sl.two wr 5 (dig p) (dig q)).drew hlen (Nat.le_trans hb.size hbl.size) ?_
      intro v3 w3 ho3 hg3
      have hb3 : Below w.heap.size w w3 := (hb.trans (hbl.mono hb.size)).grown hg3 (Nat.le_trans hb.size hbl.size) (fun g hg => (ho.lt g hg).1)
      obtain ⟨A3, n3, c3, rfl⟩ := ho3.shape
      have Ho := Lib.hid ho3
      have Hb := Lib.hid hb3
      clear ho3 hb3 hg3 hod ho hb hbl
      refine hK.out _ _ trivial (fun _ => ?_)
      clear hK K
      try simp only [Act.put, List.setIfInBounds_toArray, List.set_cons_zero, List.set_cons_succ]
      refine' wpAnyH_take (i := 9) (oi := ⟨some 3, _, _, _, _, _⟩) (v := _) rfl (by kernel_rfl) (by kernel_rfl) (by kernel_rfl) (fun _ _ _ h => h) (Or.inl ⟨by rfl, ?y9⟩) trivial ?r9
      case y9 => (intro w' hSw; go_simp; try rfl)
      try simp only [Act.put, List.setIfInBounds_toArray, List.set_cons_zero, List.set_cons_succ]
      refine wpAnyH_done (by kernel_rfl) ?_ _
      go_wp2_with fail
      go_roundw
      case rel => exact ⟨k + 1, hlt32, by go_num, by rw [hexB_take l k hlt, hp, hq]; exact Ho.out, Hb.out⟩
      case measure => simp [intOf]; omega
    · obtain rfl : k = 32 := by omega
      rw [List.take_of_length_le (by omega)] at ho
      obtain ⟨A2, n2, c2, rfl⟩ := ho.shape
      have q := conv_any ho.sl
      go_wp2
      go_ret
      exact ⟨rfl, hb⟩
end Go.Proofs.YtggijgclnnlfmaaDoor

/-
  The walk of the document's Of.
-/
import Derived.Test.YtggijgclnnlfmaaDoorShaEq
import Derived.Test.YtggijgclnnlfmaaDoorUnhexR
namespace Go.Proofs.YtggijgclnnlfmaaDoor
open Go.RowKit
set_option linter.unusedVariables false
set_option linter.unusedSimpArgs false

/-- What the document's Of answers. -/
def RefOfPost (l : List UInt8) (w : World) (e : Ending) (w' : World) : Prop :=
  ∃ T b, e = .returned (.tuple #[.agg T, .bool b]) ∧ Below w.heap.size w w' ∧ ((∃ m, ofB l = some m ∧ m.length = 32 ∧ b = true ∧ T = rowB m) ∨ (ofB l = none ∧ b = false ∧ T = rowB (List.replicate 32 0)))

set_option maxHeartbeats 1600000 in
theorem refOf_any (s : ByteArray) (w : World) (hl : s.size ≤ 20000) :
    Calls Tryd.prog 16 #[.string s] w (RefOfPost s.data.toList w) := by
  have hB0 := (Blk.new w 28 (rowB (List.replicate 32 0))).alloc (.cells (rowB (List.replicate 32 0)) 28)
  have hB1 := Blk.new (w.alloc (.cells (rowB (List.replicate 32 0)) 28)) 28 (rowB (List.replicate 32 0))
  rw [show (w.alloc (.cells (rowB (List.replicate 32 0)) 28)).heap.size = w.heap.size + 1 by simp] at hB1
  have hbw : Below w.heap.size w ((w.alloc (.cells (rowB (List.replicate 32 0)) 28)).alloc (.cells (rowB (List.replicate 32 0)) 28)) := ((Below.refl _ _).alloc (Nat.le_refl _) _).alloc (by simp) _
  have hZ := zeros_row 32
  have hiZ : (Tryd.prog.info? 28).map (·.size) = some (rowB (List.replicate 32 0)).size := by rw [info_h32, hZ]
  have h1Z := rowB_one (List.replicate 32 0)
  have HO := Lib.hid (ofB_unhex s.data.toList)
  go_enter Tryd.func16, Tryd.ntmps16
  go_upto_region 2 with (fail)
  change Code.wp _ _ _ _ ((w.alloc (.cells (rowB (List.replicate 32 0)) 28)).alloc (.cells (rowB (List.replicate 32 0)) 28))
  generalize (w.alloc (.cells (rowB (List.replicate 32 0)) 28)).alloc (.cells (rowB (List.replicate 32 0)) 28) = W0 at hB0 hB1 hbw ⊢
  generalize hZZ : rowB (List.replicate 32 0) = Z at hB0 hB1 hZ hiZ h1Z
  have EZ := Lib.hid hZZ
  clear hZZ
  go_wp2_with fail
  refine (refUnhex_any s W0 hl).mono ?_
  rintro e w1 ⟨v, b, rfl, hb1, hr⟩
  replace hB0 := hB0.below hb1 hB0.lt
  replace hB1 := hB1.below hb1 hB1.lt
  replace hbw := hbw.trans (hb1.mono hbw.size)
  clear hb1
  have hth : w1.there w.heap.size 0 Z.size := hB0.there
  have fail_ : ∀ w1 : World, Blk w1 w.heap.size 28 Z → Below w.heap.size w w1 → Blk (w1.setCells w.heap.size 0 Z.toList) w.heap.size 28 Z ∧ Below w.heap.size w (w1.setCells w.heap.size 0 Z.toList) := fun w1 h1 h2 =>
    ⟨h1.setRow rfl, Below.only h2 (grown_setCells w.heap.size Z.toList 0 w1) (Nat.le_refl _) h2.size⟩
  obtain ⟨hEE, hbE⟩ := fail_ w1 hB0 hbw
  clear fail_
  rcases hr with ⟨m, hm, rfl, hs⟩ | ⟨hm, rfl, rfl⟩
  · obtain ⟨A, n, c, rfl⟩ := hs.shape
    have hn := hs.len
    by_cases h32 : n = 32
    · subst h32
      have E := Lib.hid (show ofB s.data.toList = some m by rw [HO.out, hm]; simp [← hn])
      have HN := Lib.hid hn
      clear hm hn
      go_wp2_with (refine wpList_copy_splice rfl (.tmp 20) (.tmp 21) 25 25 rfl 5 Tryd.underlying25 size_u8 _ _ 32 32 _ _ rfl rfl (w.heap.size + 1) 0 ((List.replicate 32 (0 : UInt8)).map bv) 28 (show Blk w1 (w.heap.size + 1) 28 (rowB (List.replicate 32 0)) by rw [EZ.out]; exact hB1) (m.map bv) (by rw [List.length_map, ← HN.out]; rfl) (fun hp => ⟨rfl, hs.cells (by simpa using hp)⟩) (by have := HN.out; simp; omega) (bv_one m) (w.heap.size + 1) w1 (Below.refl _ _) (Nat.le_refl _) ?_)
      intro w2 hg2 hb2
      have hml : m.length = 32 := HN.out.symm
      have hE : Blk w2 (w.heap.size + 1) 28 (rowB m) := by
        have := splice_zeros m 32 (by omega)
        rw [hml, Nat.sub_self, List.replicate_zero, List.append_nil] at this
        rw [← this]; exact hg2.out
      clear hg2
      have hZ2 := hB0.below hb2 (by omega)
      have hb02 : Below w.heap.size w w2 := hbw.trans (hb2.mono (by omega))
      have hiT := rowB_info hml
      have h1T := rowB_one m
      have hsT : (rowB m).size = 32 := by rw [rowB_size, hml]
      clear hEE hbE
      generalize hT : rowB m = T at hE hiT h1T hsT
      have ET := Lib.hid hT
      clear hT hml
      have hth2 : w2.there w.heap.size 0 T.size := by rw [hsT, ← hZ]; exact hZ2.there
      go_wp2_with (first | (refine wpList_load_row rfl 28 _ rfl (w.heap.size + 1) rfl 28 T (0, 0) _ hE Tryd.underlying28 rfl hiT ?_) | (refine wpList_store_mid rfl 28 _ _ rfl w.heap.size 0 T rfl rfl hth2 hiT h1T ?_))
      have hF : Blk (w2.setCells w.heap.size 0 T.toList) w.heap.size 28 T := hZ2.setRow (by rw [hsT, hZ])
      have hgF := grown_setCells w.heap.size T.toList 0 w2
      exact bodyPost_ret (v := .tuple #[.agg T, .bool true]) (results_row_and rfl _ _ w.heap.size 28 T (0, 0) _ _ rfl rfl hF Tryd.underlying28 rfl hiT) rfl ⟨_, _, rfl, Below.only hb02 hgF (Nat.le_refl _) hb02.size, .inl ⟨m, E.out, HN.out.symm, rfl, ET.out.symm⟩⟩
    · have E := Lib.hid (show ofB s.data.toList = none by rw [HO.out, hm]; simp; omega)
      have hne : ((n : Int) == 32) = false := beq_eq_false_iff_ne.2 (by omega)
      have hne2 : ((n : Int) != 32) = true := by simp; omega
      clear hm hn
      go_wp2_with (first | (refine wpList_load_row rfl 28 _ rfl (w.heap.size + 1) rfl 28 Z (0, 0) _ hB1 Tryd.underlying28 rfl hiZ ?_) | (refine wpList_store_mid rfl 28 _ _ rfl w.heap.size 0 Z rfl rfl hth hiZ h1Z ?_))
      exact bodyPost_ret (v := .tuple #[.agg Z, .bool false]) (results_row_and rfl _ _ w.heap.size 28 Z (0, 0) _ _ rfl rfl hEE Tryd.underlying28 rfl hiZ) rfl ⟨_, _, rfl, hbE, .inr ⟨E.out, rfl, EZ.out.symm⟩⟩
  · have E := Lib.hid (show ofB s.data.toList = none by rw [HO.out, hm])
    clear hm
    go_wp2_with (first | (refine wpList_load_row rfl 28 _ rfl (w.heap.size + 1) rfl 28 Z (0, 0) _ hB1 Tryd.underlying28 rfl hiZ ?_) | (refine wpList_store_mid rfl 28 _ _ rfl w.heap.size 0 Z rfl rfl hth hiZ h1Z ?_))
    exact bodyPost_ret (v := .tuple #[.agg Z, .bool false]) (results_row_and rfl _ _ w.heap.size 28 Z (0, 0) _ _ rfl rfl hEE Tryd.underlying28 rfl hiZ) rfl ⟨_, _, rfl, hbE, .inr ⟨E.out, rfl, EZ.out.symm⟩⟩
end Go.Proofs.YtggijgclnnlfmaaDoor

/-
  The walk of minsterlaw03.ShaVectors.
-/
import Derived.Test.YtggijgclnnlfmaaDoorShaVecs
namespace Go.Proofs.YtggijgclnnlfmaaDoor
open Go.RowKit
set_option linter.unusedVariables false
set_option linter.unusedSimpArgs false

/-- A slice that is known, and stays. -/
theorem Sl.known {w : World} {l : List UInt8} {g n : Nat} {t : TypeId} (h : Blk w g t (rowB l)) (hn : n = l.length) : Sl w (.slice (some ⟨g, 0, none⟩) n n) l := h.bytes n n hn (Nat.le_refl _)

set_option maxRecDepth 100000 in
set_option maxHeartbeats 1600000 in
theorem law_vec (w : World) (hg : Gl w) (hw : 1 < w.heap.size) : Calls Tryd.prog 7 #[] w fun e w' => e = .returned (.bool true) ∧ Below w.heap.size w w' := by
  have kc := fun (w : World) (C : Array Value) (n c : Nat) => Lib.run_convert_bytes_const (P := Tryd.prog) w 25 5 C n c Tryd.underlying25 Tryd.underlying5
  have hmk1 := fun w => make_at 1000 1000 w rfl (by decide)
  have hmk2 := fun w => make_at 131 131 w rfl (by decide)
  have hmk3 := fun w => make_at 20 20 w rfl (by decide)
  go_enter Tryd.func7, Tryd.ntmps7
  go_wp2
  have hb0 : Below w.heap.size w w := Below.refl _ _
  have hB := Blk.new w 5 (zerosR 1000)
  have hb := hb0.alloc hb0.size (.cells (zerosR 1000) 5)
  have hF : rowB (fillC 97 1000 0) = zerosR 1000 := by rw [fillC_zero]; rfl
  have hg' := hg.alloc (.cells (zerosR 1000) 5)
  have hsz : w.heap.size ≤ w.heap.size := hb0.size
  generalize w.alloc (.cells (zerosR 1000) 5) = W0 at hB hb hg'  ⊢
  rw [← hF] at hB
  clear hF
  clear hmk1 hb0 hg 
  go_loopw [2] (fun z wr => ∃ k : Nat, k ≤ 1000 ∧ z = .int .i64 (k : Int) ∧ Blk wr w.heap.size 5 (rowB (fillC 97 1000 k)) ∧ Gl wr ∧ Below w.heap.size w wr) (fun z _ => 1000 - (intOf z).toNat)
  case atStart => exact ⟨0, Nat.zero_le _, rfl, hB, hg', hb⟩
  case round =>
    clear hB hb hg' 
    obtain ⟨k, hk, rfl, hB, hg, hb⟩ := hrel
    by_cases hlt : k < 1000
    · have hc : wr.cell? ⟨w.heap.size, k, none⟩ = some (.int .u8 (((fillC 97 1000 k)[k]'(by rw [fillC_length _ _ _ (by omega)]; exact hlt)).toNat : Int)) := by
        rw [hB.cell, rowB_get _ _ (by rw [fillC_length _ _ _ (by omega)]; exact hlt)]
      have hfr := hB.frozen k
      have HS := Lib.hid (fillC_set 97 1000 k hlt)
      have hg1 := Lib.hid (fun v => hg.grown (grown_setCell wr (w.heap.size) k v) (by have := hg.size; omega))
      have hg2 := hg.size
      generalize ((fillC 97 1000 k)[k]'(by rw [fillC_length _ _ _ (by omega)]; exact hlt)) = old at hc
      go_wp2
      go_roundw
      case rel => exact ⟨k + 1, by omega, by go_num, by rw [← HS.out, ← rowB_set _ _ 97 97 (by decide)]; exact hB.set_ _ _, hg1.out _, hb.setCell (by first | exact Nat.le_refl _ | (simp; omega)) _⟩
      case measure => simp [intOf]; omega
    · obtain rfl : k = 1000 := by omega
      rw [fillC_done] at hB
      have hP0 := hB
      have hb0 := hb
      clear hB hb
      go_wp2
      have hB := Blk.new wr 5 (zerosR 131)
      have hb := hb0.alloc hb0.size (.cells (zerosR 131) 5)
      have hF : rowB (fillC 170 131 0) = zerosR 131 := by rw [fillC_zero]; rfl
      have hg' := hg.alloc (.cells (zerosR 131) 5)
      have hP0' := hP0.alloc (.cells (zerosR 131) 5)
      have nhP0 := Nat.ne_of_lt hP0.lt
      have hsz : w.heap.size ≤ wr.heap.size := hb0.size
      generalize wr.alloc (.cells (zerosR 131) 5) = W1 at hB hb hg' hP0' ⊢
      rw [← hF] at hB
      clear hF
      clear hmk2 hb0 hg hP0
      generalize wr.heap.size = g1 at hB hsz nhP0 ⊢
      go_loopw [4] (fun z wr => ∃ k : Nat, k ≤ 131 ∧ z = .int .i64 (k : Int) ∧ Blk wr w.heap.size 5 (rowB (manyC 97 1000)) ∧ Blk wr g1 5 (rowB (fillC 170 131 k)) ∧ Gl wr ∧ Below w.heap.size w wr) (fun z _ => 131 - (intOf z).toNat)
      case atStart => exact ⟨0, Nat.zero_le _, rfl, hP0', hB, hg', hb⟩
      case round =>
        clear hB hb hg' hP0'
        obtain ⟨k, hk, rfl, hP0, hB, hg, hb⟩ := hrel
        by_cases hlt : k < 131
        · have hc : wr.cell? ⟨g1, k, none⟩ = some (.int .u8 (((fillC 170 131 k)[k]'(by rw [fillC_length _ _ _ (by omega)]; exact hlt)).toNat : Int)) := by
            rw [hB.cell, rowB_get _ _ (by rw [fillC_length _ _ _ (by omega)]; exact hlt)]
          have hfr := hB.frozen k
          have HS := Lib.hid (fillC_set 170 131 k hlt)
          have hg1 := Lib.hid (fun v => hg.grown (grown_setCell wr (g1) k v) (by have := hg.size; omega))
          have hg2 := hg.size
          generalize ((fillC 170 131 k)[k]'(by rw [fillC_length _ _ _ (by omega)]; exact hlt)) = old at hc
          go_wp2
          go_roundw
          case rel => exact ⟨k + 1, by omega, by go_num, hP0.far (by simp; omega) _, by rw [← HS.out, ← rowB_set _ _ 170 170 (by decide)]; exact hB.set_ _ _, hg1.out _, hb.setCell (by first | exact Nat.le_refl _ | (simp; omega)) _⟩
          case measure => simp [intOf]; omega
        · obtain rfl : k = 131 := by omega
          rw [fillC_done] at hB
          have hP1 := hB
          have hb0 := hb
          clear hB hb
          go_wp2
          have hB := Blk.new wr 5 (zerosR 20)
          have hb := hb0.alloc hb0.size (.cells (zerosR 20) 5)
          have hF : rowB (fillC 11 20 0) = zerosR 20 := by rw [fillC_zero]; rfl
          have hg' := hg.alloc (.cells (zerosR 20) 5)
          have hP0' := hP0.alloc (.cells (zerosR 20) 5)
          have hP1' := hP1.alloc (.cells (zerosR 20) 5)
          have nhP0 := Nat.ne_of_lt hP0.lt
          have nhP1 := Nat.ne_of_lt hP1.lt
          have hsz : w.heap.size ≤ wr.heap.size := hb0.size
          generalize wr.alloc (.cells (zerosR 20) 5) = W2 at hB hb hg' hP0' hP1' ⊢
          rw [← hF] at hB
          clear hF
          clear hmk3 hb0 hg hP0 hP1
          generalize wr.heap.size = g2 at hB hsz nhP0 nhP1 ⊢
          go_loopw [6] (fun z wr => ∃ k : Nat, k ≤ 20 ∧ z = .int .i64 (k : Int) ∧ Blk wr w.heap.size 5 (rowB (manyC 97 1000)) ∧ Blk wr g1 5 (rowB (manyC 170 131)) ∧ Blk wr g2 5 (rowB (fillC 11 20 k)) ∧ Gl wr ∧ Below w.heap.size w wr) (fun z _ => 20 - (intOf z).toNat)
          case atStart => exact ⟨0, Nat.zero_le _, rfl, hP0', hP1', hB, hg', hb⟩
          case round =>
            clear hB hb hg' hP0' hP1'
            obtain ⟨k, hk, rfl, hP0, hP1, hB, hg, hb⟩ := hrel
            by_cases hlt : k < 20
            · have hc : wr.cell? ⟨g2, k, none⟩ = some (.int .u8 (((fillC 11 20 k)[k]'(by rw [fillC_length _ _ _ (by omega)]; exact hlt)).toNat : Int)) := by
                rw [hB.cell, rowB_get _ _ (by rw [fillC_length _ _ _ (by omega)]; exact hlt)]
              have hfr := hB.frozen k
              have HS := Lib.hid (fillC_set 11 20 k hlt)
              have hg1 := Lib.hid (fun v => hg.grown (grown_setCell wr (g2) k v) (by have := hg.size; omega))
              have hg2 := hg.size
              generalize ((fillC 11 20 k)[k]'(by rw [fillC_length _ _ _ (by omega)]; exact hlt)) = old at hc
              go_wp2
              go_roundw
              case rel => exact ⟨k + 1, by omega, by go_num, hP0.far (by simp; omega) _, hP1.far (by simp; omega) _, by rw [← HS.out, ← rowB_set _ _ 11 11 (by decide)]; exact hB.set_ _ _, hg1.out _, hb.setCell (by first | exact Nat.le_refl _ | (simp; omega)) _⟩
              case measure => simp [intOf]; omega
            · obtain rfl : k = 20 := by omega
              rw [fillC_done] at hB
              have hP2 := hB
              have hb0 := hb
              have s0 := Sl.known hP0 (manyC_length _ _).symm
              have s1 := Sl.known hP1 (manyC_length _ _).symm
              have s2 := Sl.known hP2 (manyC_length _ _).symm
              have l0 := manyC_length 97 1000
              have l1 := manyC_length 170 131
              have l2 := manyC_length 11 20
              have V2 := Lib.hid (show (shaN (manyC 97 1000)).take 4 = [65, 237, 236, 228] from vec_2)
              have V3 := Lib.hid (show (codeN (manyC 11 20) [72, 105, 32, 84, 104, 101, 114, 101]).take 4 = [176, 52, 76, 97] from vec_3)
              have V4 := Lib.hid (show (codeN (manyC 170 131) [84, 101, 115, 116, 32, 85, 115, 105, 110, 103, 32, 76, 97, 114, 103, 101, 114, 32, 84, 104, 97, 110, 32, 66, 108, 111, 99, 107, 45, 83, 105, 122, 101, 32, 75, 101, 121, 32, 45, 32, 72, 97, 115, 104, 32, 75, 101, 121, 32, 70, 105, 114, 115, 116]).take 4 = [96, 228, 49, 89] from vec_4)
              clear hb hB hP0 hP1 hP2
              generalize manyC 97 1000 = A0 at s0 l0 V2
              generalize manyC 170 131 = A1 at s1 l1 V4
              generalize manyC 11 20 = A2 at s2 l2 V3
              go_wp2_with fail
              refine (sum_any _ [[97, 98, 99, 100, 98, 99, 100, 101, 99, 100, 101, 102, 100, 101, 102, 103, 101, 102, 103, 104, 102, 103, 104, 105, 103, 104, 105, 106, 104, 105, 106, 107, 105, 106, 107, 108, 106, 107, 108, 109, 107, 108, 109, 110, 108, 109, 110, 111, 109, 110, 111, 112, 110, 111, 112, 113]] _ (Sls.mark wr _ _ _ _ [97, 98, 99, 100, 98, 99, 100, 101, 99, 100, 101, 102, 100, 101, 102, 103, 101, 102, 103, 104, 102, 103, 104, 105, 103, 104, 105, 106, 104, 105, 106, 107, 105, 106, 107, 108, 106, 107, 108, 109, 107, 108, 109, 110, 108, 109, 110, 111, 109, 110, 111, 112, 110, 111, 112, 113] 56 56 rfl (Nat.le_refl _) rfl) (by decide) (by decide) ((hg.alloc _).alloc _)).mono ?_
              rintro e x1 ⟨rfl, hbx⟩
              replace hbx := below2 _ _ hbx
              replace hg := hg.below hbx
              replace s0 := s0.below hbx
              replace s1 := s1.below hbx
              replace s2 := s2.below hbx
              replace hb0 := hb0.trans (hbx.mono hb0.size)
              clear hbx
              go_wp2_with fail
              refine (begins_of _ (shaN_length _) 36 141 106 97 vec_1 _ _ _ _ rfl rfl rfl rfl _).mono ?_
              rintro e x2 ⟨rfl, hbx⟩
              replace hg := hg.below hbx
              replace s0 := s0.below hbx
              replace s1 := s1.below hbx
              replace s2 := s2.below hbx
              replace hb0 := hb0.trans (hbx.mono hb0.size)
              clear hbx
              go_wp2_with fail
              refine (sum_any _ [A0] _ (Sls.one x2 _ _ _ s0) (by simp [l0]) (by simp) (hg.alloc _)).mono ?_
              rintro e x3 ⟨rfl, hbx⟩
              replace hbx := below1 _ hbx
              replace hg := hg.below hbx
              replace s1 := s1.below hbx
              replace s2 := s2.below hbx
              replace hb0 := hb0.trans (hbx.mono hb0.size)
              clear hbx
              go_wp2_with fail
              refine (begins_of _ (shaN_length _) 65 237 236 228 (by simpa using V2.out) _ _ _ _ rfl rfl rfl rfl _).mono ?_
              rintro e x4 ⟨rfl, hbx⟩
              replace hg := hg.below hbx
              replace s1 := s1.below hbx
              replace s2 := s2.below hbx
              replace hb0 := hb0.trans (hbx.mono hb0.size)
              clear hbx
              go_wp2_with fail
              refine (code_any _ _ A2 [[72, 105, 32, 84, 104, 101, 114, 101]] _ ((s2.alloc _).alloc _) (Sls.mark x4 _ _ _ _ [72, 105, 32, 84, 104, 101, 114, 101] 8 8 rfl (Nat.le_refl _) rfl) (by omega) (by decide) (by decide) ((hg.alloc _).alloc _)).mono ?_
              rintro e x5 ⟨rfl, hbx⟩
              replace hbx := below2 _ _ hbx
              replace hg := hg.below hbx
              replace s1 := s1.below hbx
              replace hb0 := hb0.trans (hbx.mono hb0.size)
              clear hbx
              go_wp2_with fail
              refine (begins_of _ (codeN_length _ _) 176 52 76 97 (by simpa using V3.out) _ _ _ _ rfl rfl rfl rfl _).mono ?_
              rintro e x6 ⟨rfl, hbx⟩
              replace hg := hg.below hbx
              replace s1 := s1.below hbx
              replace hb0 := hb0.trans (hbx.mono hb0.size)
              clear hbx
              go_wp2_with fail
              refine (code_any _ _ A1 [[84, 101, 115, 116, 32, 85, 115, 105, 110, 103, 32, 76, 97, 114, 103, 101, 114, 32, 84, 104, 97, 110, 32, 66, 108, 111, 99, 107, 45, 83, 105, 122, 101, 32, 75, 101, 121, 32, 45, 32, 72, 97, 115, 104, 32, 75, 101, 121, 32, 70, 105, 114, 115, 116]] _ ((s1.alloc _).alloc _) (Sls.mark x6 _ _ _ _ [84, 101, 115, 116, 32, 85, 115, 105, 110, 103, 32, 76, 97, 114, 103, 101, 114, 32, 84, 104, 97, 110, 32, 66, 108, 111, 99, 107, 45, 83, 105, 122, 101, 32, 75, 101, 121, 32, 45, 32, 72, 97, 115, 104, 32, 75, 101, 121, 32, 70, 105, 114, 115, 116] 54 54 rfl (Nat.le_refl _) rfl) (by omega) (by decide) (by decide) ((hg.alloc _).alloc _)).mono ?_
              rintro e x7 ⟨rfl, hbx⟩
              replace hbx := below2 _ _ hbx
              replace hg := hg.below hbx
              replace hb0 := hb0.trans (hbx.mono hb0.size)
              clear hbx
              go_wp2_with fail
              refine (begins_of _ (codeN_length _ _) 96 228 49 89 (by simpa using V4.out) _ _ _ _ rfl rfl rfl rfl _).mono ?_
              rintro e x8 ⟨rfl, hbx⟩
              replace hg := hg.below hbx
              replace hb0 := hb0.trans (hbx.mono hb0.size)
              clear hbx
              go_wp2_with fail
              refine (known_any _ hg).mono ?_
              rintro e x9 ⟨rfl, hbx⟩
              replace hb0 := hb0.trans (hbx.mono hb0.size)
              go_wp2
              go_ret
              exact ⟨rfl, hb0⟩
end Go.Proofs.YtggijgclnnlfmaaDoor

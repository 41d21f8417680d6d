/-
  The walk of minsterlaw02.FramesOpen.
-/
import Derived.Test.YtbglghjmcjdmeaaCrcLawShort
import Derived.Test.YtbglghjmcjdmeaaCrcLawChanged
namespace Go.Proofs.Ytbglghjmcjdmeaa
open Go.RowKit
set_option linter.unusedVariables false

theorem open_long (v : Value) (l : List UInt8) (w : World) (hs : Sl w v l) (h : 1500 < l.length) :
    Calls Try.prog 4 #[v] w fun e w' => e = .returned (.bool true) ∧ Below w.heap.size w w' := by
  obtain ⟨A, c, rfl, hc, ha⟩ := hs
  clear ha
  have h1' : (1500 : Int) < (l.length : Int) := by omega
  go_enter Try.func4, Try.ntmps4
  go_wp2_with (go_at_call 8; refine (known_any _).mono ?_; rintro e w2 ⟨rfl, hb2⟩)
  go_ret
  exact ⟨rfl, hb2⟩

set_option maxHeartbeats 1000000 in
/-- Of bytes that are not closed. -/
theorem open_shut (v : Value) (l : List UInt8) (w : World) (hs : Sl w v l) (hl : l.length ≤ 1500) (h : opens l = false) :
    Calls Try.prog 4 #[v] w fun e w' => e = .returned (.bool true) ∧ Below w.heap.size w w' := by
  have hs' := hs
  obtain ⟨A, c, rfl, hc, ha⟩ := hs
  clear ha
  have h1 : ¬ (1500 : Int) < (l.length : Int) := by omega
  obtain ⟨str, hstr⟩ : ∃ t : ByteArray, (⟨l.toArray⟩ : ByteArray) = t := ⟨_, rfl⟩
  have Hstr := Lib.hid hstr
  clear hstr
  have hcv := conv_mk hs' Hstr.out
  have HO := Lib.hid h
  clear h
  have href : ∀ w' : World, Below w.heap.size w w' → Calls Try.prog 15 #[.slice A l.length c] w' fun e w'' => e = .returned (.tuple #[.slice none 0 0, .bool false]) ∧ Below w'.heap.size w' w'' := by
    intro w' hb
    by_cases h4 : 4 ≤ l.length
    · exact refOpen_no _ l w' (hs'.below hb) (by omega) h4 (opens_false HO.out h4)
    · exact refOpen_few _ l w' (hs'.below hb) (by omega)
  have Href := Lib.hid href
  clear href
  go_enter Try.func4, Try.ntmps4
  go_wp2_with fail
  refine (open_no _ l _ hs' (by omega) (opens_false HO.out)).mono ?_
  rintro e w1 ⟨rfl, hb1⟩
  clear hcv
  go_wp2_with fail
  refine (Href.out _ hb1).mono ?_
  rintro e w2 ⟨rfl, hb2⟩
  have hb3 := hb1.trans (hb2.mono hb1.size)
  have hs2 := hs'.below hb3
  clear Href hb1 hb2
  have hnil : (convert 23 9 (.slice none 0 0)).run Try.prog w2 = .ok (.string ⟨#[]⟩) w2 := conv_any (Sl.nil none 0)
  by_cases h4 : 4 ≤ l.length
  · have h4' : (4 : Int) ≤ (l.length : Int) := by omega
    have hne := opens_false HO.out h4
    have hne2 : ((crcN l : Int) == (resN : Int)) = false := by simp; omega
    clear hne
    go_wp2_with fail
    refine (sum_any _ [l] _ (Sls.one w2 _ _ _ hs2) (by simp; omega) (by simp)).mono ?_
    rintro e w3 ⟨rfl, hb4⟩
    rw [show crcN [l].flatten = crcN l by rw [show [l].flatten = l by simp]]
    have hb5 : Below w.heap.size w w3 := (hb3.alloc hb3.size _).trans (hb4.mono (by simp; have := hb3.size; omega))
    clear hb3 hb4 hs2 hnil
    go_wp2_with fail
    refine (residue_any _).mono ?_
    rintro e w4 ⟨rfl, hb6⟩
    have hb7 := hb5.trans (hb6.mono hb5.size)
    clear hb5 hb6
    generalize crcN l = X at hne2 ⊢
    generalize resN = Y at hne2 ⊢
    have hcv := conv_mk (hs'.below hb7) Hstr.out
    go_wp2
    go_loop [8] (fun z => z = .int .i64 0) (fun _ => 0)
    case atStart => rfl
    case round =>
      subst hrel
      go_wp2_with (go_at_call 8; refine (known_any _).mono ?_; rintro e w5 ⟨rfl, hb8⟩)
      go_ret
      exact ⟨rfl, hb7.trans (hb8.mono hb7.size)⟩
  · have h4' : ¬ (4 : Int) ≤ (l.length : Int) := by omega
    have hcv := conv_mk hs2 Hstr.out
    go_wp2
    go_loop [8] (fun z => z = .int .i64 0) (fun _ => 0)
    case atStart => rfl
    case round =>
      subst hrel
      go_wp2_with (go_at_call 8; refine (known_any _).mono ?_; rintro e w5 ⟨rfl, hb8⟩)
      go_ret
      exact ⟨rfl, hb3.trans (hb8.mono hb3.size)⟩

set_option maxHeartbeats 1000000 in
/-- Of bytes that are closed. -/
theorem open_open (v : Value) (l : List UInt8) (w : World) (hs : Sl w v l) (hl : l.length ≤ 1500) (h : opens l = true) :
    Calls Try.prog 4 #[v] w fun e w' => e = .returned (.bool true) ∧ Below w.heap.size w w' := by
  have hs' := hs
  obtain ⟨A, c, rfl, hc, ha⟩ := hs
  clear ha
  have h1 : ¬ (1500 : Int) < (l.length : Int) := by omega
  obtain ⟨h4, hcr⟩ := opens_true h
  clear h
  have h4' : (4 : Int) ≤ (l.length : Int) := by omega
  have HC := Lib.hid hcr
  obtain ⟨str, hstr⟩ : ∃ t : ByteArray, (⟨l.toArray⟩ : ByteArray) = t := ⟨_, rfl⟩
  have Hstr := Lib.hid hstr
  clear hstr hcr
  obtain ⟨str1, hstr⟩ : ∃ t : ByteArray, (⟨(l.take (l.length - 4)).toArray⟩ : ByteArray) = t := ⟨_, rfl⟩
  have Hstr1 := Lib.hid hstr
  clear hstr
  have hcv := conv_mk hs' Hstr.out
  go_enter Try.func4, Try.ntmps4
  go_wp2_with fail
  refine (open_yes _ l _ hs' (by omega) h4 HC.out).mono ?_
  rintro e w1 ⟨v1, rfl, ho1, hb1⟩
  obtain ⟨A1, n1, c1, rfl⟩ := ho1.shape
  have Ho1 := Lib.hid ho1
  clear hcv ho1
  go_wp2_with fail
  refine (refOpen_yes _ l _ (hs'.below hb1) (by omega) h4 HC.out).mono ?_
  rintro e w2 ⟨v2, rfl, hs2, hb2⟩
  obtain ⟨A2, n2, c2, rfl⟩ := hs2.shape
  have hb3 := hb1.trans (hb2.mono hb1.size)
  have k1 := conv_mk (Ho1.out.sl.below hb2) Hstr1.out
  have k2 := conv_mk hs2 Hstr1.out
  have Ho2 := Lib.hid (Ho1.out.below hb2 (Nat.le_refl _))
  have HN1 := Lib.hid Ho1.out.sl.len
  clear Ho1 hs2 hb1 hb2
  go_wp2_with fail
  refine (sum_any _ [l] _ (Sls.one w2 _ _ _ (hs'.below hb3)) (by simp; omega) (by simp)).mono ?_
  rintro e w3 ⟨rfl, hb4⟩
  rw [show crcN [l].flatten = resN by rw [show [l].flatten = l by simp, HC.out]]
  have Ho3 := Lib.hid ((Ho2.out.alloc _).below hb4 (Nat.le_refl _))
  have hb5 : Below w.heap.size w w3 := (hb3.alloc hb3.size _).trans (hb4.mono (by simp; have := hb3.size; omega))
  clear hb3 hb4 k1 k2 Ho2
  go_wp2_with fail
  refine (residue_any _).mono ?_
  rintro e w4 ⟨rfl, hb6⟩
  have Ho4 := Lib.hid (Ho3.out.below hb6 (Nat.le_refl _))
  have hb7 := hb5.trans (hb6.mono hb5.size)
  clear hb5 hb6 Ho3
  generalize resN = Y
  have hn2 : n1 ≤ 1500 := by rw [HN1.out]; simp; omega
  go_wp2
  go_loopw [8] (fun z wr => ∃ k : Nat, k ≤ n1 ∧ z = .int .i64 (k : Int) ∧ (∀ g, A1 = some ⟨g, 0, none⟩ → 0 < n1 → ∃ m : List UInt8, m.length = n1 ∧ RowAt wr g m) ∧ Below w.heap.size w wr) (fun z _ => n1 - (intOf z).toNat)
  case atStart =>
    refine ⟨0, Nat.zero_le _, rfl, ?_, hb7⟩
    intro g hg h0
    have hn1 := HN1.out
    obtain ⟨g', e, _, hn, _, hrow⟩ := Ho4.out.row (by omega)
    rw [hg] at e
    injection e with e
    injection e with e
    subst e
    exact ⟨_, hn.symm, hrow⟩
  case round =>
    obtain ⟨k, hk, rfl, hrow, hb⟩ := hrel
    by_cases hlt : k < n1
    · obtain ⟨g, rfl, hg, hn, hc1, _⟩ := Ho4.out.row (by have := HN1.out; omega)
      obtain ⟨m, hm, hR⟩ := hrow g rfl (by omega)
      have hkm : k < m.length := by omega
      have hcell := hR.cell k hkm
      have hfr := hR.frozen k
      have HN := Lib.hid hn
      have HM := Lib.hid hm
      clear hn hm hrow
      go_wp2
      go_roundw
      case rel =>
        refine ⟨k + 1, by omega, by go_num, ?_, hb.setCell (by simp; omega) _⟩
        intro g1 hg1 _
        injection hg1 with hg1
        injection hg1 with hg1
        subst hg1
        rw [show ((m[k].toNat : Int) + 1) % 256 = ((UInt8.ofNat ((m[k].toNat + 1) % 256)).toNat : Int) by rw [u8_toNat]; omega]
        exact ⟨_, by simpa using HM.out, hR.set_ k hkm _⟩
      case measure => simp [intOf]; omega
    · obtain rfl : k = n1 := by omega
      have hcv := conv_mk (hs'.below hb) Hstr.out
      clear hrow
      go_wp2_with (go_at_call 8; refine (known_any _).mono ?_; rintro e w5 ⟨rfl, hb8⟩)
      go_ret
      exact ⟨rfl, hb.trans (hb8.mono hb.size)⟩
end Go.Proofs.Ytbglghjmcjdmeaa

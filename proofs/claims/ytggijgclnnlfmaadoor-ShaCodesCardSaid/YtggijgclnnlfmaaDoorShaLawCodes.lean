/-
  The walk of minsterlaw03.ShaCodes.
-/
import Derived.Test.YtggijgclnnlfmaaDoorShaRefCode
namespace Go.Proofs.YtggijgclnnlfmaaDoor
open Go.RowKit
set_option linter.unusedVariables false
set_option linter.unusedSimpArgs false

set_option maxHeartbeats 1600000 in
theorem law_codes (v v2 : Value) (l : List UInt8) (ls : List (List UInt8)) (w : World) (hv : Sl w v l) (hs : Sls w v2 ls) (hn : ls.length ≤ 9223372036854775807) (hg : Gl w) :
    Calls Tryd.prog 4 #[v, v2] w fun e w' => e = .returned (.bool true) ∧ Below w.heap.size w w' := by
  obtain ⟨A, n, c, rfl⟩ := hv.shape
  have hn0 := hv.len
  subst hn0
  by_cases h3 : 300 < l.length
  · have h3i : (300 : Int) < (l.length : Int) := by omega
    go_enter Tryd.func4, Tryd.ntmps4
    go_wp2_with fail
    refine (known_any _ hg).mono ?_
    rintro e w1 ⟨rfl, hx⟩
    go_wp2
    go_ret
    exact ⟨rfl, hx⟩
  have h3i : ¬ (300 : Int) < (l.length : Int) := by omega
  by_cases hm : 3000 < ls.length + ls.flatten.length
  · have HM := much_any v2 ls w true hs hn (by rw [decide_eq_true hm])
    go_enter Tryd.func4, Tryd.ntmps4
    go_wp2_with fail
    refine HM.mono ?_
    rintro e w' ⟨rfl, rfl⟩
    clear HM hm
    go_wp2_with fail
    refine (known_any _ hg).mono ?_
    rintro e w1 ⟨rfl, hx⟩
    go_wp2
    go_ret
    exact ⟨rfl, hx⟩
  · have HM := much_any v2 ls w false hs hn (by rw [decide_eq_false hm])
    have HL := Lib.hid (show l.length ≤ 300 ∧ ls.length ≤ 3000 ∧ ls.flatten.length ≤ 3000 by omega)
    clear hm
    go_enter Tryd.func4, Tryd.ntmps4
    go_wp2_with fail
    refine HM.mono ?_
    rintro e w' ⟨rfl, rfl⟩
    clear HM
    obtain ⟨str, hstr⟩ : ∃ t : ByteArray, (⟨l.toArray⟩ : ByteArray) = t := ⟨_, rfl⟩
    have Hstr := Lib.hid hstr
    clear hstr
    have kw : (convert 25 9 (.slice A l.length c)).run Tryd.prog w = .ok (.string str) w := by rw [← Hstr.out]; exact conv_any hv
    go_wp2_with fail
    refine (refJoin_any v2 ls w hs (by have := HL.out; omega) (by have := HL.out; omega)).mono ?_
    rintro e w1 ⟨vb, rfl, ho, hb⟩
    clear kw
    obtain ⟨Ab, nb, cb, rfl⟩ := ho.shape
    have hsb := ho.sl
    replace hs := hs.below hb
    replace hv := hv.below hb
    replace hg := hg.below hb
    clear ho
    have hself : ∀ w, (Op.equalIn 10000 28 (.agg (rowB (codeN l ls.flatten))) (.agg (rowB (codeN l ls.flatten)))).run Tryd.prog w = .ok true w := hash_self _ (codeN_length _ _)
    obtain ⟨R, hR⟩ : ∃ R, R = rowB (codeN l ls.flatten) := ⟨_, rfl⟩
    rw [← hR] at hself
    have HR := Lib.hid hR
    clear hR
    go_wp2_with fail
    refine (code_any _ v2 l ls w1 hv hs (by have := HL.out; omega) (by have := HL.out; omega) (by have := HL.out; omega) hg).mono ?_
    rintro e w2 ⟨rfl, hx⟩
    rw [← HR.out]
    replace hsb := hsb.below hx
    replace hv := hv.below hx
    replace hg := hg.below hx
    replace hb := hb.trans (hx.mono hb.size)
    clear hx hs
    go_wp2_with fail
    refine (refCode_any _ _ l ls.flatten w2 hv hsb (by have := HL.out; omega) (by have := HL.out; omega)).mono ?_
    rintro e w3 ⟨rfl, hx⟩
    rw [← HR.out]
    replace hsb := hsb.below hx
    replace hv := hv.below hx
    replace hg := hg.below hx
    replace hb := hb.trans (hx.mono hb.size)
    clear hx
    have hal : Below w3.heap.size w3 (w3.alloc (.cells #[.slice Ab nb cb] 25)) := (Below.refl _ _).alloc (Nat.le_refl _) _
    have hone := Sls.one w3 25 _ ls.flatten hsb
    go_wp2_with fail
    refine (code_any _ _ l [ls.flatten] _ (hv.below hal) hone (by have := HL.out; omega) (by have := HL.out; simp at this ⊢; omega) (by simp) (hg.below hal)).mono ?_
    rintro e w4 ⟨rfl, hx⟩
    rw [show [ls.flatten].flatten = ls.flatten by simp, ← HR.out]
    replace hsb := (hsb.below hal).below hx
    replace hv := (hv.below hal).below hx
    replace hg := (hg.below hal).below hx
    replace hb := (hb.trans (hal.mono hb.size)).trans (hx.mono (Nat.le_trans hb.size hal.size))
    clear hx hal hone
    go_wp2_with fail
    refine (refCode_any _ _ l ls.flatten w4 hv hsb (by have := HL.out; omega) (by have := HL.out; omega)).mono ?_
    rintro e w5 ⟨rfl, hx⟩
    rw [← HR.out]
    replace hv := hv.below hx
    replace hg := hg.below hx
    replace hb := hb.trans (hx.mono hb.size)
    clear hx hsb
    have kw : (convert 25 9 (.slice A l.length c)).run Tryd.prog w5 = .ok (.string str) w5 := by rw [← Hstr.out]; exact conv_any hv
    go_wp2_with fail
    refine (known_any _ hg).mono ?_
    rintro e w6 ⟨rfl, hx⟩
    replace hb := hb.trans (hx.mono hb.size)
    go_wp2
    go_ret
    exact ⟨rfl, hb⟩
end Go.Proofs.YtggijgclnnlfmaaDoor

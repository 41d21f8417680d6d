/-
  The walk of minsterlaw03.ShaSums.
-/
import Derived.Test.YtggijgclnnlfmaaDoorShaRefSum
namespace Go.Proofs.YtggijgclnnlfmaaDoor
open Go.RowKit
set_option linter.unusedVariables false
set_option linter.unusedSimpArgs false

set_option maxHeartbeats 1600000 in
theorem law_sums (v : Value) (ls : List (List UInt8)) (w : World) (hs : Sls w v ls) (hn : ls.length ≤ 9223372036854775807) (hg : Gl w) :
    Calls Tryd.prog 3 #[v] w fun e w' => e = .returned (.bool true) ∧ Below w.heap.size w w' := by
  by_cases hm : 3000 < ls.length + ls.flatten.length
  · have HM := much_any v ls w true hs hn (by rw [decide_eq_true hm])
    go_enter Tryd.func3, Tryd.ntmps3
    go_wp2_with fail
    refine HM.mono ?_
    rintro e w' ⟨rfl, rfl⟩
    clear HM hm
    go_wp2_with fail
    refine (known_any _ hg).mono ?_
    rintro e w1 ⟨rfl, hx⟩
    go_wp2
    go_ret
    exact ⟨rfl, hx⟩
  · have HM := much_any v ls w false hs hn (by rw [decide_eq_false hm])
    have HL := Lib.hid (show ls.length ≤ 3000 ∧ ls.flatten.length ≤ 3000 by omega)
    clear hm
    go_enter Tryd.func3, Tryd.ntmps3
    go_wp2_with fail
    refine HM.mono ?_
    rintro e w' ⟨rfl, rfl⟩
    clear HM
    go_wp2_with fail
    refine (refJoin_any v ls w hs (by have := HL.out; omega) (by have := HL.out; omega)).mono ?_
    rintro e w1 ⟨vb, rfl, ho, hb⟩
    obtain ⟨Ab, nb, cb, rfl⟩ := ho.shape
    have hsb := ho.sl
    replace hs := hs.below hb
    replace hg := hg.below hb
    clear ho
    have hself : ∀ w, (Op.equalIn 10000 28 (.agg (rowB (shaN ls.flatten))) (.agg (rowB (shaN ls.flatten)))).run Tryd.prog w = .ok true w := hash_self _ (shaN_length _)
    obtain ⟨R, hR⟩ : ∃ R, R = rowB (shaN ls.flatten) := ⟨_, rfl⟩
    rw [← hR] at hself
    have HR := Lib.hid hR
    clear hR
    go_wp2_with fail
    refine (sum_any v ls w1 hs (by have := HL.out; omega) hn hg).mono ?_
    rintro e w2 ⟨rfl, hx⟩
    rw [← HR.out]
    replace hsb := hsb.below hx
    replace hg := hg.below hx
    replace hb := hb.trans (hx.mono hb.size)
    clear hx hs
    go_wp2_with fail
    refine (refSum_any _ ls.flatten w2 hsb (by have := HL.out; omega)).mono ?_
    rintro e w3 ⟨rfl, hx⟩
    rw [← HR.out]
    replace hsb := hsb.below hx
    replace hg := hg.below hx
    replace hb := hb.trans (hx.mono hb.size)
    clear hx
    have hal : Below w3.heap.size w3 (w3.alloc (.cells #[.slice Ab nb cb] 25)) := (Below.refl _ _).alloc (Nat.le_refl _) _
    have hone := Sls.one w3 25 _ ls.flatten hsb
    go_wp2_with fail
    refine (sum_any _ [ls.flatten] _ hone (by have := HL.out; simp at this ⊢; omega) (by simp) (hg.below hal)).mono ?_
    rintro e w4 ⟨rfl, hx⟩
    rw [show [ls.flatten].flatten = ls.flatten by simp, ← HR.out]
    replace hsb := (hsb.below hal).below hx
    replace hg := (hg.below hal).below hx
    replace hb := (hb.trans (hal.mono hb.size)).trans (hx.mono (Nat.le_trans hb.size hal.size))
    clear hx hal hone
    go_wp2_with fail
    refine (refSum_any _ ls.flatten w4 hsb (by have := HL.out; omega)).mono ?_
    rintro e w5 ⟨rfl, hx⟩
    rw [← HR.out]
    replace hg := hg.below hx
    replace hb := hb.trans (hx.mono hb.size)
    clear hx hsb
    go_wp2_with fail
    refine (known_any _ hg).mono ?_
    rintro e w6 ⟨rfl, hx⟩
    replace hb := hb.trans (hx.mono hb.size)
    go_wp2
    go_ret
    exact ⟨rfl, hb⟩
end Go.Proofs.YtggijgclnnlfmaaDoor

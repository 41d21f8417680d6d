/-
  OrsetBoth: of two sets that see each other's items, a key that one subscribed anew is in both, where the other one had not heard of it. No condition.
-/
import Derived.Test.YtldfaaahmpncbaaGreatOrtN
import Derived.Test.YtldfaaahmpncbaaGreatOrtO
import Derived.ChangeMaps5
namespace Go.Proofs.YtldfaaahmpncbaaGreat.orsetBoth
open Go.ChangeShapes Go.WideShapes Go.ChangeAt Go.RowKit
set_option linter.unusedVariables false

theorem both_any (t u t2 u2 : ByteArray) (heard : Bool) (r : Int) (w : World) : Calls Tryz.prog 8 #[.agg #[.string t, .string u], .agg #[.string t2, .string u2], .bool heard, .int .i64 r] w fun e w' => e = .returned (.bool true) ∧ Below w.heap.size w w' := by
  by_cases h : (nameB t && nameB u) = true ∧ (nameB t2 && nameB u2) = true ∧ 3 ≤ r ∧ r ≤ 16
  · exact both_good t u t2 u2 heard r w h.1 h.2.1 h.2.2.1 h.2.2.2
  · exact both_bad t u t2 u2 heard r w h
set_option maxRecDepth 20000 in
theorem contract (H : Type) (enc : TypeId × Value → H) (W : World) (base : Nat) (args : Array Value) (ds gs : List (DataW H)) (before : List MemPlace)
    (hval : ∀ (j : Nat) t v, Tryz.f8.params[j]? = some t → args[j]? = some v → Value.okWide Tryz.prog W .any base t v)
    (hW : DataW.Whole enc Tryz.prog Tryz.f8.params.toList Rows.orsetBothSpec.vars false W args.toList ds gs before) :
    Calls Tryz.prog 8 args W fun e W' => ∃ v, e = .returned v ∧ Rows.orsetBothSpec.post enc Tryz.prog Tryz.f8 false true false false W args v W' := by
  have hW' := hW
  obtain ⟨p, q, hA0, hV, rfl, hfz, hnd⟩ := hW
  have hA : DataW.TrodAll enc Tryz.prog W 0 (fun _ => true) true Tryz.f8.params.toList args.toList ds p := hA0
  rw [Tryz.params8] at hA hval
  obtain ⟨v0, v1, v2, v3, d0, d1, d2, d3, p0, p1, p2, p3, rfl, rfl, rfl, h0, h1, h2, h3⟩ := trodAll_four hA
  obtain ⟨rfl, rfl⟩ := trodVars_none hV
  obtain ⟨k, rfl⟩ := open_key (hval 0 39 v0 rfl rfl) h0
  obtain ⟨o, rfl⟩ := open_key (hval 1 39 v1 rfl rfl) h1
  obtain ⟨hd, rfl⟩ := open_bool (hval 2 4 v2 rfl rfl)
  obtain ⟨rg, rfl⟩ := okWide_int Tryz.underlying3 (hval 3 3 v3 rfl rfl)
  refine (both_any k.1 k.2 o.1 o.2 hd rg W).mono fun e W' ⟨he, hb⟩ => ?_
  exact ⟨_, he, post_law hW' hb (by rw [Tryz.params8]; exact of_decide_eq_true (by kernel_rfl)) rfl (by kernel_rfl) rfl⟩

set_option maxRecDepth 100000 in
theorem lifted (os : Go.Os) (started : os.Started) (H : Type) (enc : TypeId × Value → H) :
    ReturnsInHanded {} Tryz.checked os 8 .any (Rows.orsetBothSpec.pre6 enc Tryz.prog Tryz.f8 Rows.orsetBothRow.domain false) (Rows.orsetBothSpec.post enc Tryz.prog Tryz.f8 false true false false) := by
  refine returnsInHanded_of_change (C := Tryz.checked) own started (by kernel_rfl) Tryz.func8
    (ChangeSpec.witness6 (enc := enc) (C := Tryz.checked) false ⟨#[], #[.agg #[.string ⟨#[]⟩, .string ⟨#[]⟩], .agg #[.string ⟨#[]⟩, .string ⟨#[]⟩], .bool false, .int .i64 0], []⟩ 8 (by kernel_rfl) (by kernel_rfl) (by kernel_rfl) (by kernel_rfl)) ?_
  intro W base args ds gs before hval hW _ _
  exact contract H enc W base args ds gs before hval hW

theorem proved : Rows.OrsetBothSaid :=
  OpenClaim.holds_of_wide 8 Tryz.f8 rfl rfl rfl rfl rfl rfl rfl ⟨rfl, rfl, rfl, rfl, rfl⟩ rfl rfl rfl rfl rfl (by kernel_rfl) Tryz.func8 (by kernel_rfl)
    (of_decide_eq_true (by kernel_rfl)) (by unfold Func.isWrapper; first | (rw [if_pos (by decide +kernel)]; kernel_rfl) | (rw [if_neg (by decide +kernel)]; exact ⟨rfl, rfl⟩))
    (fun os started H enc _ => lifted os started H enc)
end Go.Proofs.YtldfaaahmpncbaaGreat.orsetBoth

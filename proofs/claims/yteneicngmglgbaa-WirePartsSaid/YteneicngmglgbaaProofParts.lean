/-
  WireParts: for any dot, any vector, any lists of bytes, any bytes, the law answers true, and its arguments read as they did. No condition.
-/
import Derived.Test.YteneicngmglgbaaLawParts
import Derived.Test.YteneicngmglgbaaOpen
namespace Go.Proofs.Yteneicngmglgbaa.wireParts
open Go.ChangeShapes Go.WideShapes Go.ChangeAt Go.RowKit
set_option linter.unusedVariables false

theorem walk (r : Int) (n : Nat) (cs : Array Value) (vec : List Nat) (v2 v3 : Value) (ls : List (List UInt8)) (l : List UInt8) (w : World) (hn : n < 18446744073709551616) (hv : Vec cs vec) (h2 : Sls w v2 ls) (hn2 : ls.length ≤ 9223372036854775807) (h3 : Sl w v3 l) :
    Calls Try.prog 4 #[.agg #[.int .i64 r, .int .u64 (n : Int)], .agg cs, v2, v3] w fun e w' => e = .returned (.bool true) ∧ Below w.heap.size w w' := by
  by_cases h : 9000 < ls.length + ls.flatten.length ∨ 70000 < l.length
  · exact wp_much r n cs vec v2 v3 ls l w hv h2 hn2 h3 h
  · have e : cs = cs.toList.toArray := by simp
    rw [e] at hv ⊢
    exact wp_few r n cs.toList vec v2 v3 ls l w hn hv h2 hn2 h3 (by omega) (by omega)

theorem contract (H : Type) (enc : TypeId × Value → H) (W : World) (base : Nat) (args : Array Value) (ds gs : List (DataW H)) (before : List MemPlace)
    (hval : ∀ (j : Nat) t v, Try.f4.params[j]? = some t → args[j]? = some v → Value.okWide Try.prog W .any base t v)
    (hW : DataW.Whole enc Try.prog Try.f4.params.toList Rows.wirePartsSpec.vars false W args.toList ds gs before) :
    Calls Try.prog 4 args W fun e W' => ∃ v, e = .returned v ∧ Rows.wirePartsSpec.post enc Try.prog Try.f4 false true false false W args v W' := by
  have hW' := hW
  obtain ⟨p, q, hA0, hV, rfl, hfz, hnd⟩ := hW
  have hA : DataW.TrodAll enc Try.prog W 0 (fun _ => true) true Try.f4.params.toList args.toList ds p := hA0
  rw [Try.params4] at hA hval
  obtain ⟨v0, v1, v2, v3, d0, d1, d2, d3, p0, p1, p2, p3, rfl, rfl, rfl, h0, h1, h2, h3⟩ := trodAll_four hA
  obtain ⟨rfl, rfl⟩ := trodVars_none hV
  obtain ⟨r, n, rfl, hn, _, _⟩ := open_dot (hval 0 36 v0 rfl rfl) h0
  obtain ⟨cs, vec, rfl, hv⟩ := open_vec (hval 1 38 v1 rfl rfl) h1
  obtain ⟨ls, hls, hln⟩ := open_rows (hval 2 39 v2 rfl rfl) h2
  obtain ⟨l, hs⟩ := open_bytes (hval 3 23 v3 rfl rfl) h3
  refine (walk r n cs vec v2 v3 ls l W hn hv hls hln hs).mono fun e W' ⟨he, hb⟩ => ?_
  exact ⟨_, he, post_law hW' hb (by rw [Try.params4]; exact of_decide_eq_true (by kernel_rfl)) rfl (by kernel_rfl) rfl⟩

set_option maxRecDepth 100000 in
theorem lifted (os : Os) (started : os.Started) (H : Type) (enc : TypeId × Value → H) :
    ReturnsInHanded {} Try.checked os 4 .any (Rows.wirePartsSpec.pre6 enc Try.prog Try.f4 Rows.wirePartsRow.domain false) (Rows.wirePartsSpec.post enc Try.prog Try.f4 false true false false) := by
  refine returnsInHanded_of_change (C := Try.checked) own started (by kernel_rfl) Try.func4
    (ChangeSpec.witness6 (enc := enc) (C := Try.checked) false ⟨#[], #[.agg #[.int .i64 0, .int .u64 0], .agg #[.int .u64 0, .int .u64 0, .int .u64 0, .int .u64 0, .int .u64 0, .int .u64 0, .int .u64 0, .int .u64 0, .int .u64 0, .int .u64 0, .int .u64 0, .int .u64 0, .int .u64 0, .int .u64 0, .int .u64 0, .int .u64 0], .slice none 0 0, .slice none 0 0], []⟩ 8 (by kernel_rfl) (by kernel_rfl) (by kernel_rfl) (by kernel_rfl)) ?_
  intro W base args ds gs before hval hW _ _
  exact contract H enc W base args ds gs before hval hW

theorem proved : Rows.WirePartsSaid :=
  OpenClaim.holds_of_wide 4 Try.f4 rfl rfl rfl rfl rfl rfl rfl ⟨rfl, rfl, rfl, rfl, rfl⟩ rfl rfl rfl rfl rfl (by kernel_rfl) Try.func4 (by kernel_rfl)
    (of_decide_eq_true (by kernel_rfl)) (by unfold Func.isWrapper; first | (rw [if_pos (by decide +kernel)]; kernel_rfl) | (rw [if_neg (by decide +kernel)]; exact ⟨rfl, rfl⟩))
    (fun os started H enc _ => lifted os started H enc)
end Go.Proofs.Yteneicngmglgbaa.wireParts

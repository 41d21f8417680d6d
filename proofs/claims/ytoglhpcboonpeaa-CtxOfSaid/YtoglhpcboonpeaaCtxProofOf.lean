/-
  CtxOf: which vectors and exceptions are a context, and that each context is that of its own. No condition.
-/
import Derived.Test.YtoglhpcboonpeaaCtxLawOfA
import Derived.Test.YtoglhpcboonpeaaCtxOpenV
import Derived.ChangeMaps5
namespace Go.Proofs.Ytoglhpcboonpeaa
open Go.ChangeShapes Go.WideShapes Go.ChangeAt Go.RowKit Go.Deep CtxM
set_option linter.unusedVariables false
set_option maxRecDepth 20000
theorem ofL_any (V : List Nat) (vx vl : Value) (X L : List Dt) (w : World) (hV : V.length = 16) (hX : Sd w vx X) (hXo : ∀ i, vx.ownBlock = some i → i < w.heap.size) (hL : Sd w vl L) :
    Calls Try.prog 5 #[.agg (uqs V), vx, vl] w fun e w' => e = .returned (.bool true) ∧ Below w.heap.size w w' := by
  by_cases lx : X.length ≤ 100
  · by_cases ll : L.length ≤ 100
    · exact ofL_short V vx vl X L w hV hX hXo hL lx ll
    · obtain ⟨A, c, rfl, _, _⟩ := hX
      obtain ⟨A2, c2, rfl, _, _⟩ := hL
      have b1 : decide ((100 : Int) < (X.length : Int)) = false := decide_eq_false (by omega)
      have b2 : (100 : Int) < (L.length : Int) := by omega
      have hb0 : Below w.heap.size w (w.alloc (.cells (uqs V) 52)) := (Below.refl _ _).alloc (Nat.le_refl _) _
      clear lx ll hXo
      go_enter Try.func5, Try.ntmps5
      go_wp2_with fail
      refine (known_any _).mono ?_
      rintro e w' ⟨rfl, hb⟩
      go_wp2
      go_ret
      exact ⟨rfl, hb0.trans (hb.mono hb0.size)⟩
  · obtain ⟨A, c, rfl, _, _⟩ := hX
    obtain ⟨A2, c2, rfl, _, _⟩ := hL
    have b1 : (100 : Int) < (X.length : Int) := by omega
    have hb0 : Below w.heap.size w (w.alloc (.cells (uqs V) 52)) := (Below.refl _ _).alloc (Nat.le_refl _) _
    clear lx hXo
    go_enter Try.func5, Try.ntmps5
    go_wp2_with fail
    refine (known_any _).mono ?_
    rintro e w' ⟨rfl, hb⟩
    go_wp2
    go_ret
    exact ⟨rfl, hb0.trans (hb.mono hb0.size)⟩
end Go.Proofs.Ytoglhpcboonpeaa
namespace Go.Proofs.Ytoglhpcboonpeaa.ctxOf
open Go.ChangeShapes Go.WideShapes Go.ChangeAt Go.RowKit
set_option linter.unusedVariables false

set_option maxRecDepth 20000 in
theorem contract (H : Type) (enc : TypeId × Value → H) (W : World) (base : Nat) (args : Array Value) (ds gs : List (DataW H)) (before : List MemPlace)
    (hval : ∀ (j : Nat) t v, Try.f5.params[j]? = some t → args[j]? = some v → Value.okWide Try.prog W .any base t v)
    (hW : DataW.Whole enc Try.prog Try.f5.params.toList Rows.ctxOfSpec.vars false W args.toList ds gs before) :
    Calls Try.prog 5 args W fun e W' => ∃ v, e = .returned v ∧ Rows.ctxOfSpec.post enc Try.prog Try.f5 false true false false W args v W' := by
  have hW' := hW
  obtain ⟨p, q, hA0, hV, rfl, hfz, hnd⟩ := hW
  have hA : DataW.TrodAll enc Try.prog W 0 (fun _ => true) true Try.f5.params.toList args.toList ds p := hA0
  rw [Try.params5] at hA hval
  obtain ⟨v0, v1, v2, d0, d1, d2, p0, p1, p2, rfl, rfl, rfl, h0, h1, h2⟩ := trodAll_three hA
  obtain ⟨rfl, rfl⟩ := trodVars_none hV
  obtain ⟨V, rfl, hV16⟩ := open_vec (hval 0 52 v0 rfl rfl) h0
  obtain ⟨X, hX⟩ := open_dots (hval 1 22 v1 rfl rfl) h1
  obtain ⟨L, hL⟩ := open_dots (hval 2 22 v2 rfl rfl) h2
  refine (ofL_any V v1 v2 X L W hV16 hX (okWide_old Try.underlying22 (hval 1 22 v1 rfl rfl)) hL).mono fun e W' ⟨he, hb⟩ => ?_
  exact ⟨_, he, post_law hW' hb (by rw [Try.params5]; exact of_decide_eq_true (by kernel_rfl)) rfl (by kernel_rfl) rfl⟩

set_option maxRecDepth 100000 in
theorem lifted (os : Os) (started : os.Started) (H : Type) (enc : TypeId × Value → H) :
    ReturnsInHanded {} Try.checked os 5 .any (Rows.ctxOfSpec.pre6 enc Try.prog Try.f5 Rows.ctxOfRow.domain false) (Rows.ctxOfSpec.post enc Try.prog Try.f5 false true false false) := by
  refine returnsInHanded_of_change (C := Try.checked) own started (by kernel_rfl) Try.func5
    (ChangeSpec.witness6 (enc := enc) (C := Try.checked) false ⟨#[], #[.agg #[.int .u64 0, .int .u64 0, .int .u64 0, .int .u64 0, .int .u64 0, .int .u64 0, .int .u64 0, .int .u64 0, .int .u64 0, .int .u64 0, .int .u64 0, .int .u64 0, .int .u64 0, .int .u64 0, .int .u64 0, .int .u64 0], .slice none 0 0, .slice none 0 0], []⟩ 8 (by kernel_rfl) (by kernel_rfl) (by kernel_rfl) (by kernel_rfl)) ?_
  intro W base args ds gs before hval hW _ _
  exact contract H enc W base args ds gs before hval hW

theorem proved : Rows.CtxOfSaid :=
  OpenClaim.holds_of_wide 5 Try.f5 rfl rfl rfl rfl rfl rfl rfl ⟨rfl, rfl, rfl, rfl, rfl⟩ rfl rfl rfl rfl rfl (by kernel_rfl) Try.func5 (by kernel_rfl)
    (of_decide_eq_true (by kernel_rfl)) (by unfold Func.isWrapper; first | (rw [if_pos (by decide +kernel)]; kernel_rfl) | (rw [if_neg (by decide +kernel)]; exact ⟨rfl, rfl⟩))
    (fun os started H enc _ => lifted os started H enc)
end Go.Proofs.Ytoglhpcboonpeaa.ctxOf

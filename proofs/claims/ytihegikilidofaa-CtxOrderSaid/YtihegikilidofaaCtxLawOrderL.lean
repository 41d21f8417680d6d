/-
  CtxOrder, whatever the lists; a list of numbers opened.
-/
import Derived.Test.YtihegikilidofaaCtxLawOrderW
import Derived.Test.YtihegikilidofaaCtxOpen
namespace Go.Proofs.Ytihegikilidofaa
open Go.ChangeShapes Go.WideShapes Go.ChangeAt Go.RowKit Go.Deep CtxM
set_option linter.unusedVariables false
set_option maxRecDepth 20000

theorem order_any (vl vo vs : Value) (L : List Dt) (O : List Int) (M : List Dt) (w : World) (hL : Sd w vl L) (hO : Si w vo O) (hM : Sd w vs M) :
    Calls Try.prog 8 #[vl, vo, vs] w fun e w' => e = .returned (.bool true) ∧ Below w.heap.size w w' := by
  by_cases hl : L.length ≤ 80
  · by_cases ho : O.length ≤ 160
    · by_cases hm : M.length ≤ 80
      · exact order_short vl vo vs L O M w hL hO hM hl ho hm
      · obtain ⟨A, c, rfl, _, _⟩ := hL
        obtain ⟨A2, c2, rfl, _, _⟩ := hO
        obtain ⟨A3, c3, rfl, _, _⟩ := hM
        have b1 : decide ((80 : Int) < (L.length : Int)) = false := decide_eq_false (by omega)
        have b2 : decide ((160 : Int) < (O.length : Int)) = false := decide_eq_false (by omega)
        have b3 : (80 : Int) < (M.length : Int) := by omega
        clear hl ho hm
        go_enter Try.func8, Try.ntmps8
        go_wp2_with fail
        refine (known_any w).mono ?_
        rintro e w' ⟨rfl, hb⟩
        go_wp2
        go_ret
        exact ⟨rfl, hb⟩
    · obtain ⟨A, c, rfl, _, _⟩ := hL
      obtain ⟨A2, c2, rfl, _, _⟩ := hO
      obtain ⟨A3, c3, rfl, _, _⟩ := hM
      have b1 : decide ((80 : Int) < (L.length : Int)) = false := decide_eq_false (by omega)
      have b2 : (160 : Int) < (O.length : Int) := by omega
      clear hl ho
      go_enter Try.func8, Try.ntmps8
      go_wp2_with fail
      refine (known_any w).mono ?_
      rintro e w' ⟨rfl, hb⟩
      go_wp2
      go_ret
      exact ⟨rfl, hb⟩
  · obtain ⟨A, c, rfl, _, _⟩ := hL
    obtain ⟨A2, c2, rfl, _, _⟩ := hO
    obtain ⟨A3, c3, rfl, _, _⟩ := hM
    have b1 : (80 : Int) < (L.length : Int) := by omega
    clear hl
    go_enter Try.func8, Try.ntmps8
    go_wp2_with fail
    refine (known_any w).mono ?_
    rintro e w' ⟨rfl, hb⟩
    go_wp2
    go_ret
    exact ⟨rfl, hb⟩

section
variable {H : Type} {enc : TypeId × Value → H}
/-- An argument of numbers, opened. -/
theorem open_nums {W : World} {base : Nat} {v : Value} {d : DataW H} {ps : List MemPlace} (hv : Value.okWide Try.prog W .any base 64 v) (h : DataW.Trod enc Try.prog W 0 (fun _ => true) true 64 v d ps) :
    ∃ O : List Int, Si W v O := by
  obtain ⟨a0, len, cap, rfl⟩ := okWide_slice Try.underlying64 hv
  obtain ⟨fuel, hf⟩ := h
  rcases open_ints Try.underlying64 Try.underlying3 (by kernel_rfl) hf with ⟨hcs, hx⟩ | ⟨a, len', cap', zs, hcs, _, hl, hm, hz, hx, hcell, hwz⟩
  · simp [Value.cells] at hcs
    obtain ⟨rfl, rfl, rfl⟩ := hcs
    exact ⟨[], none, 0, rfl, Nat.le_refl _, fun h => absurd h (by simp)⟩
  · simp [Value.cells] at hcs
    obtain ⟨rfl, rfl, rfl⟩ := hcs
    simp only [if_true] at hz
    have hlz : (zs.take len).length = len := by simp; omega
    refine ⟨zs.take len, some a, cap, by rw [hlz], by rw [hlz]; exact hl, fun hn => ?_⟩
    rw [hlz] at hn
    obtain ⟨b, off, spot⟩ := a
    have hspot : spot = none := by simpa [Addr.add] using World.cell?_spot (hcell 0 (by omega))
    subst hspot
    refine ⟨b, off, rfl, fun j hj => ?_⟩
    rw [hlz] at hj
    have hc := hcell j (by omega)
    rw [add_plain] at hc
    rw [hc]
    have e1 : zs.getD j 0 = zs[j]'(by omega) := by simp [List.getD, List.getElem?_eq_getElem (show j < zs.length by omega)]
    rw [e1]
    simp only [List.getElem_take]
end
end Go.Proofs.Ytihegikilidofaa

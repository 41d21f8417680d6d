/-
  The walk of CtxOrder.
-/
import Derived.Test.YtihegikilidofaaCtxLawOf
import Derived.Test.YtihegikilidofaaCtxOrdM
import Derived.Test.YtihegikilidofaaCtxSame
namespace Go.Proofs.Ytihegikilidofaa
open Go.RowKit
open CtxM
set_option linter.unusedVariables false
set_option linter.unusedSimpArgs false
set_option maxRecDepth 20000

/-- A slice of numbers. -/
def Si (w : World) (v : Value) (O : List Int) : Prop :=
  ∃ A c, v = .slice A O.length c ∧ O.length ≤ c ∧ (0 < O.length → ∃ b o, A = some ⟨b, o, none⟩ ∧ ∀ j (h : j < O.length), w.cell? ⟨b, o + j, none⟩ = some (.int .i64 O[j]))
theorem Si.at_ {w w' : World} {A : Option Addr} {c n : Nat} {O : List Int} (h : Si w (.slice A n c) O) (hb : Below w.heap.size w w') (i : Nat) (hi : i < O.length) (x : Int) (hx : O[i] = x) :
    ∃ b o, A = some ⟨b, o, none⟩ ∧ w'.cell? ⟨b, o + i, none⟩ = some (.int .i64 x) := by
  obtain ⟨A', c', e, _, ha⟩ := h
  injection e with e1 e2 e3
  subst e1
  obtain ⟨b, o, rfl, hc⟩ := ha (by omega)
  exact ⟨b, o, rfl, by rw [← hx]; exact (hb.cell (World.block_lt_of_cell? w _ (hc i hi))).trans (hc i hi)⟩

/-- A context of the call's own. -/
def Lone (w : World) (B g : Nat) (S : List Nat × List Dt) : Prop := ∃ v, Cx w g v S.1 S.2 ∧ ∀ j, Foot g v j → B ≤ j
theorem Lone.below {w w' : World} {B g : Nat} {S : List Nat × List Dt} (t : Lone w B g S) (hb : Below w.heap.size w w') : Lone w' B g S := by
  obtain ⟨v, hc, hd⟩ := t
  exact ⟨v, hc.below hb, hd⟩
theorem Two.lone {w : World} {B g h : Nat} {S : List Nat × List Dt} (t : Two w B g h S) : Lone w B g S := by
  obtain ⟨v, u, hc, _, _, hd⟩ := t.is
  exact ⟨v, hc, hd⟩
theorem Lone.new {w w1 : World} (hc : Cx w1 w.heap.size (.slice none 0 0) zeros []) : Lone w1 w.heap.size w.heap.size (zeros, []) := by
  refine ⟨_, hc, ?_⟩
  rintro j (rfl | hj)
  · exact Nat.le_refl _
  · cases hj
theorem lone_add {w0 w : World} {B g : Nat} {S : List Nat × List Dt} {d : Dt} (t : Lone w B g S) (hl : S.2.length < 4096) (hb : Below B w0 w) (hB : B ≤ w.heap.size) :
    Calls Try.prog 11 #[.pointer (some ⟨g, 0, none⟩), .agg #[.int .i64 d.1, .int .u64 (d.2 : Int)]] w fun e w' =>
      e = .returned (.tuple #[.bool (decide (May d ∧ ¬ In S.1 S.2 d)), .int .i64 (if May d then 0 else 2)]) ∧ Lone w' B g (addS S d) ∧ Below B w0 w' ∧ B ≤ w'.heap.size := by
  obtain ⟨v, hc, hlo⟩ := t
  refine (add_any g v S.1 S.2 d w hc hl).mono ?_
  rintro e w' ⟨rfl, v', h1, h2, h3⟩
  refine ⟨rfl, ⟨v', h1, ?_⟩, Keep.below hb h2 hB hlo, Nat.le_trans hB h2.size⟩
  rintro j (hj | hj)
  · exact hlo j (.inl hj)
  · rcases h3 j hj with h | h
    · exact hlo j (.inr h)
    · omega
theorem addAll_snoc (S : List Nat × List Dt) (l : List Dt) (d : Dt) : addAll S (l ++ [d]) = addS (addAll S l) d := by rw [addAll_append]; rfl
theorem addAll_len (l : List Dt) : (addAll (zeros, []) l).2.length ≤ l.length := by
  have := addAll_short l (zeros, [])
  simpa using this

/-- b gets dots of l by order's numbers, then l backwards. -/
theorem turn_rem (x : Int) (n : Nat) (hn : 0 < n) (hm : n ≤ 80) : ∃ j : Nat, j < n ∧ ∃ r, x.tmod (n : Int) = r ∧ IntKind.i64.wrap (r + (n : Int)) = r + (n : Int) ∧ (r + (n : Int)).tmod (n : Int) = (j : Int) := by
  have h1 : -(n : Int) < x.tmod n := by
    have := Int.lt_tmod_of_pos x (b := (n : Int)) (by omega)
    omega
  have h2 : x.tmod n < (n : Int) := Int.tmod_lt_of_pos x (by omega)
  have h3 : 0 ≤ (x.tmod n + n).tmod n := Int.tmod_nonneg _ (by omega)
  have h4 : (x.tmod n + n).tmod n < (n : Int) := Int.tmod_lt_of_pos _ (by omega)
  exact ⟨((x.tmod n + n).tmod n).toNat, by omega, _, rfl, by rw [IntKind.wrap_i64] <;> omega, by omega⟩
end Go.Proofs.Ytihegikilidofaa

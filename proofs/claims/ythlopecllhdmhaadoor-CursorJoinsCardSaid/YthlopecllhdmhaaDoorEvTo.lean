/-
  To whom an event goes, as cells; event's mayTo.
-/
import Derived.Test.YthlopecllhdmhaaDoorEvB
namespace Go.Proofs.YthlopecllhdmhaaDoor
open Go.RowKit
open CtxM
set_option linter.unusedVariables false
set_option linter.unusedSimpArgs false
set_option maxRecDepth 20000

abbrev De := Dt × ByteArray
/-- The value v is a slice that reads as the dests T in the world w. -/
def Se (w : World) (v : Value) (T : List De) : Prop :=
  ∃ A c, v = .slice A T.length c ∧ T.length ≤ c ∧ (0 < T.length → ∃ b o, A = some ⟨b, o, none⟩ ∧ ∀ j (h : j < T.length), w.cell? ⟨b, o + j * 3, none⟩ = some (.int .i64 T[j].1.1) ∧ w.cell? ⟨b, o + j * 3 + 1, none⟩ = some (.int .u64 (T[j].1.2 : Int)) ∧ w.cell? ⟨b, o + j * 3 + 2, none⟩ = some (.string T[j].2))
theorem Se.nil {w : World} (A : Option Addr) (c : Nat) : Se w (.slice A 0 c) [] := ⟨A, c, rfl, Nat.zero_le _, fun h => absurd h (by simp)⟩
theorem Se.keep {w w' : World} {v : Value} {T : List De} (h : Se w v T) (hk : ∀ p : Addr, ∀ u, w.cell? p = some u → w'.cell? p = some u) : Se w' v T := by
  obtain ⟨A, c, rfl, hc, ha⟩ := h
  refine ⟨A, c, rfl, hc, fun hn => ?_⟩
  obtain ⟨b, o, rfl, hx⟩ := ha hn
  exact ⟨b, o, rfl, fun j hj => ⟨hk _ _ (hx j hj).1, hk _ _ (hx j hj).2.1, hk _ _ (hx j hj).2.2⟩⟩
theorem Se.below {w w' : World} {v : Value} {T : List De} (h : Se w v T) (hb : Below w.heap.size w w') : Se w' v T :=
  h.keep fun p u hu => (hb.cell (World.block_lt_of_cell? w p hu)).trans hu
theorem Se.shape {w : World} {v : Value} {T : List De} (h : Se w v T) : ∃ A c, v = .slice A T.length c := by
  obtain ⟨A, c, rfl, _⟩ := h
  exact ⟨A, c, rfl⟩
theorem Se.at_ {w : World} {A : Option Addr} {n c : Nat} {T : List De} (h : Se w (.slice A n c) T) (j : Nat) (hj : j < T.length) : ∃ b o, A = some ⟨b, o, none⟩ ∧ w.cell? ⟨b, o + j * 3, none⟩ = some (.int .i64 T[j].1.1) ∧ w.cell? ⟨b, o + j * 3 + 1, none⟩ = some (.int .u64 (T[j].1.2 : Int)) ∧ w.cell? ⟨b, o + j * 3 + 2, none⟩ = some (.string T[j].2) := by
  obtain ⟨A', c', e, hc, ha⟩ := h
  injection e with e1 e2 e3
  subst e1
  obtain ⟨b, o, rfl, hx⟩ := ha (by omega)
  exact ⟨b, o, rfl, hx j hj⟩

theorem Grw.drawn {a b : World} (h : Grw a b) : a.drawn ≤ b.drawn := by
  obtain ⟨q, os, rfl⟩ := h
  exact Nat.le_add_right _ _

end Go.Proofs.YthlopecllhdmhaaDoor

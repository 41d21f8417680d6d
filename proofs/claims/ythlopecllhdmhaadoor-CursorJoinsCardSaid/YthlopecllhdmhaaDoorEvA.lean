/-
  Steps of a region that draws its order and whose callees but lay new blocks: a row loaded. event's MayDot, Less, MayName, Under, Join: each but grows the world.
-/
import Derived.Test.YthlopecllhdmhaaDoorEvMem
import Derived.Test.YthlopecllhdmhaaDoorHeldA
import Derived.Shelf.SlSortCmp.QuietGrown
import Derived.BigQuiet
import Derived.Deep.MidRow
namespace Go.Proofs.YthlopecllhdmhaaDoor
open Go.RowKit
open CtxM
set_option linter.unusedVariables false
set_option linter.unusedSimpArgs false

/-- What keeps all old blocks and draws no less than before but grows the world. -/
theorem grw_of {w w' : World} (h : Below w.heap.size w w') (hd : w.drawn ≤ w'.drawn) : Grw w w' := by
  refine ⟨w'.drawn - w.drawn, w'.heap.extract w.heap.size w'.heap.size, ?_⟩
  have e1 : w'.heap = w.heap ++ w'.heap.extract w.heap.size w'.heap.size := by
    apply Array.ext_getElem?
    intro k
    have hs := h.size
    by_cases hk : k < w.heap.size
    · rw [h.block k hk, Array.getElem?_append_left hk]
    · rw [Array.getElem?_append_right (by omega), Array.getElem?_extract]
      by_cases h2 : k < w'.heap.size
      · rw [if_pos (by omega), show w.heap.size + (k - w.heap.size) = k by omega]
      · rw [if_neg (by omega), Array.getElem?_eq_none (by omega)]
  have h1 := h.os
  have h2 := h.tape
  have h3 := h.output
  clear h
  cases w
  cases w'
  simp only [Go.Sort.grow, World.drewN] at *
  subst h1 h2 h3
  rw [← e1]
  congr 1
  omega

section
variable {P : Program} {ops : Array Oper} {w : World} {Q : Act → Prop} {a : Act} {o : Oper} {rest : List Oper}
/-- A row that lies in the world ahead of the region, loaded. -/
theorem q_load (hw : Region.wanted o (yielded ops a.tmps) = true) (ty : TypeId) (x : Operand) (ho : o.op = .load ty x) (g off : Nat) (hx : a.eval x = .pointer (some ⟨g, off, none⟩)) (cs : Array Value) (d : TypeDesc)
    (hg : g < w.heap.size) (hr : w.rangeAt g off cs.toList) (hu : P.underlying ty = some d) (hd : d.isRow = true) (hi : (P.info? ty).map (·.size) = some cs.size)
    (h : wpQuiet P ops (fun w' => ∃ p : GrownBy, w' = Go.Sort.grow (w.drewN p.n) p.os) Q rest (a.put o.dst (.agg cs))) : wpQuiet P ops (fun w' => ∃ p : GrownBy, w' = Go.Sort.grow (w.drewN p.n) p.os) Q (o :: rest) a := by
  refine BigFrame.wpQuiet_want hw fun K hK => ⟨_, fun W hW => ?_, hK _ h⟩
  obtain ⟨p, rfl⟩ := hW
  unfold Oper.quietAt execOp
  have hr' : (Go.Sort.grow (w.drewN p.n) p.os).rangeAt g off cs.toList := fun j v hv => cell_grown (a := ⟨g, off + j, none⟩) hg (hr j v hv) p.n p.os
  simp only [ho, hx, Instr.loadAt, Instr.sureAddr, Sem.run_bind, Sem.run_pure, Result.andThen_ok, run_loadVar_mid _ g off ty cs.toList d hr' hu hd (by simpa using hi)]
  exact ⟨rfl, rfl⟩
end

theorem uqs_range {w : World} {g : Nat} {t : TypeId} {V : List Nat} (h : Blk w g t (uqs V)) : w.rangeAt g 0 (uqs V).toList := fun j u hu => by
  rw [Nat.zero_add, h.cell]; simpa using hu
/-- Under: does the dot lie under the vector? -/
def Und (V : List Nat) (d : Dt) : Prop := May d ∧ d.2 ≤ at_ V d.1
instance (V : List Nat) (d : Dt) : Decidable (Und V d) := by unfold Und; infer_instance

end Go.Proofs.YthlopecllhdmhaaDoor

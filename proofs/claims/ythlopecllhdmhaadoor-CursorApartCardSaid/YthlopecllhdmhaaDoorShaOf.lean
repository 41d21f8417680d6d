/-
  The walk of sha.Of.
-/
import Derived.Test.YthlopecllhdmhaaDoorHexPlain
import Derived.Test.YthlopecllhdmhaaDoorShaKnown
namespace Go.Proofs.YthlopecllhdmhaaDoor
open Go.RowKit
set_option linter.unusedVariables false
set_option linter.unusedSimpArgs false

/-- Two results: an array that lies in memory, and a slot. -/
theorem results_row_and {P : Program} {fn : Func} {p q : Tmp} {ty : TypeId} (h : fn.results = #[.cell p ty, .tmp q]) (tmps : Array Value) (w : World) (g : Nat) (t : TypeId) (cs : Array Value) (fr : Nat × Nat) (d : TypeDesc) (v : Value)
    (hp : tmps.getD p undef = .pointer (some ⟨g, 0, none⟩)) (hq : tmps.getD q undef = v) (hg : w.heap[g]? = some (.cells cs t fr))
    (hu : P.underlying ty = some d) (hd : (match d with | .struct _ | .array _ _ => true | _ => false) = true) (hi : (P.info? ty).map (·.size) = some cs.size) :
    (results fn tmps).run P w = .ok (.tuple #[.agg cs, v]) w := by
  have hp' : tmps[p]?.getD undef = .pointer (some ⟨g, 0, none⟩) := by simpa using hp
  have hq' : tmps[q]?.getD undef = v := by simpa using hq
  simp [results, h, hp', hq', asAddr, run_loadVar_row w g t ty cs fr d hg hu hd hi]

/-- The hash whose text it is. -/
def ofB (l : List UInt8) : Option (List UInt8) := if l.length = 64 then unhexTo l 32 else none
theorem ofB_unhex (l : List UInt8) : ofB l = match unhexB l with | some m => if m.length = 32 then some m else none | none => none := by
  unfold ofB unhexB
  by_cases h : l.length = 64
  · rw [if_pos h, if_pos (by omega), h]
    cases e : unhexTo l 32 with
    | none => simp [e]
    | some m => simp [e, unhexTo_length _ _ _ e]
  · rw [if_neg h]
    by_cases h2 : l.length % 2 = 0
    · rw [if_pos h2]
      cases e : unhexTo l (l.length / 2) with
      | none => rfl
      | some m =>
        have := unhexTo_length _ _ _ e
        simp only []
        rw [if_neg (by omega)]
    · rw [if_neg h2]
end Go.Proofs.YthlopecllhdmhaaDoor

/-
  The walk of Sync.
-/
import Derived.Test.YtdbkhigocjmfoaaDskPut
import Derived.StillTailTactics
namespace Go.Proofs.Ytdbkhigocjmfoaa
open Go.RowKit Go.Maps
open DskM
set_option linter.unusedVariables false
set_option linter.unusedSimpArgs false
set_option maxRecDepth 20000

theorem nothing_any (w : World) : Calls Try.prog 56 #[] w fun e w' => e = .returned (.tuple #[]) ∧ w' = w := by
  go_enter Try.func56, Try.ntmps56
  go_wp2
  go_end0
  exact ⟨rfl, rfl⟩

section
variable {w w' : World} {p m : Nat} {S S' : Ds} {L : List Fo}
/-- What Sync does. -/
theorem sync1_any (c : Nat) (f : Fo) (W : World) (hc : W.cell? ⟨c, 0, none⟩ = some (.pointer (some ⟨f.g, 0, none⟩))) (hf : FoAt W f) :
    Calls Try.prog 57 #[.pointer (some ⟨c, 0, none⟩)] W fun e W' => e = .returned (.tuple #[]) ∧ W' = W.drew.setCell ⟨f.g, 1, none⟩ (.int .i64 (f.bs.length : Int)) := by
  have hfo : Try.prog.follows .mixedOrders = true := by kernel_rfl
  have c0 := hf.c0
  have f1 := hf.blk.frozen 1
  have c1 := hf.c1
  obtain ⟨A, n, cc, hv⟩ := hf.row.shape
  rw [hv] at c0
  obtain rfl : n = f.bs.length := by have := hf.row.sl; rw [hv] at this; exact this.len
  clear hf hv
  generalize f.g = g at *
  generalize f.bs.length = n at *
  generalize f.la = la at *
  go_enter Try.func57, Try.ntmps57
  go_still_tail 8, hfo
  go_wp2
  go_end0
  exact ⟨rfl, rfl⟩
end
end Go.Proofs.Ytdbkhigocjmfoaa

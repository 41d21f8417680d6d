/-
  Two files' likeness.
-/
import Derived.Test.YtdbkhigocjmfoaaDskNo
import Derived.BigQuiet
namespace Go.Proofs.Ytdbkhigocjmfoaa
open Go.RowKit Go.Maps
open DskM
set_option linter.unusedVariables false
set_option linter.unusedSimpArgs false
set_option maxRecDepth 20000

section
variable {w : World}
theorem bytesEq_any (a b : Value) (la lb : List UInt8) (ha : Sl w a la) (hb : Sl w b lb) :
    Calls Try.prog 64 #[a, b] w fun e w' => e = .returned (.bool (la == lb)) ∧ w' = w := by
  have k1 := ha.conv (P := Try.prog) (src := 38) (dst := 9) (e := 5) Try.underlying38 Try.underlying5 Try.underlying9
  have k2 := hb.conv (P := Try.prog) (src := 38) (dst := 9) (e := 5) Try.underlying38 Try.underlying5 Try.underlying9
  have hq : ((ByteArray.mk la.toArray).toList == (ByteArray.mk lb.toArray).toList) = (la == lb) := by
    rw [ByteArray.toList_eq, ByteArray.toList_eq]
  clear ha hb
  go_enter Try.func64, Try.ntmps64
  go_wp2
  go_ret
  exact ⟨by first | rfl | (rw [hq]) | (simp only [hq]), rfl⟩
/-- Are two files alike? -/
theorem fileSame_nil (g : Nat) : Calls Try.prog 48 #[.pointer (some ⟨g, 0, none⟩), .pointer none] w fun e w' => e = .returned (.bool false) ∧ Below w.heap.size w w' := by
  go_enter Try.func48, Try.ntmps48
  go_wp2_with fail
  go_quiet (fail)
  have hb := below_drewN (Below.refl w.heap.size w) nq
  go_wp2
  go_ret
  exact ⟨rfl, hb⟩
theorem fileSame_any (f k : Fo) (hf : FoAt w f) (hk : FoAt w k) : Calls Try.prog 48 #[.pointer (some ⟨f.g, 0, none⟩), .pointer (some ⟨k.g, 0, none⟩)] w fun e w' => e = .returned (.bool (f.la == k.la && f.bs == k.bs)) ∧ Below w.heap.size w w' := by
  have a0 := hf.c0
  have a1 := hf.c1
  have b0 := hk.c0
  have b1 := hk.c1
  have hs1 := hf.row.sl
  have hs2 := hk.row.sl
  by_cases he : f.la = k.la
  · have t1 : (((f.la : Nat) : Int) == ((k.la : Nat) : Int)) = true := by rw [beq_iff_eq]; omega
    have t2 : (f.la == k.la) = true := by rw [beq_iff_eq]; exact he
    have hq : ∀ n, Calls Try.prog 64 #[f.v, k.v] (w.drewN n) fun e w' => e = .returned (.bool (f.bs == k.bs)) ∧ w' = w.drewN n := fun n => bytesEq_any _ _ _ _ (hs1.keep fun p u hu => hu) (hs2.keep fun p u hu => hu)
    rw [t2, Bool.true_and]
    have HE := Lib.hid he
    clear he t2 hf hk hs1 hs2
    go_enter Try.func48, Try.ntmps48
    go_wp2_with fail
    go_quiet ((go_at_call 64; exact Calls.quiet_of_same (hq _)))
    have hb := below_drewN (Below.refl w.heap.size w) nq
    go_wp2
    go_ret
    exact ⟨rfl, hb⟩
  · have t1 : (((f.la : Nat) : Int) == ((k.la : Nat) : Int)) = false := by rw [beq_eq_false_iff_ne]; omega
    have t2 : (f.la == k.la) = false := by rw [beq_eq_false_iff_ne]; exact he
    rw [t2, Bool.false_and]
    have HE := Lib.hid he
    clear he t2 hf hk hs1 hs2
    go_enter Try.func48, Try.ntmps48
    go_wp2_with fail
    go_quiet (fail)
    have hb := below_drewN (Below.refl w.heap.size w) nq
    go_wp2
    go_ret
    exact ⟨rfl, hb⟩
end
end Go.Proofs.Ytdbkhigocjmfoaa

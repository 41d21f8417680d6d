/-
  EventNext's law: the plain side; an event built.
-/
import Derived.Test.YtigepbklpiilpaaEvKn
import Derived.Test.YtigepbklpiilpaaEvRef
import Derived.Test.YtigepbklpiilpaaEvLawDots
import Derived.Deep.Strs
import Derived.Test.YtigepbklpiilpaaHeldA
namespace Go.Proofs.Ytigepbklpiilpaa
open Go.RowKit
open CtxM
set_option linter.unusedVariables false
set_option linter.unusedSimpArgs false
set_option maxRecDepth 20000

/-- The value v is a slice that reads as the strings L in the world w. -/
def Ss (w : World) (v : Value) (L : List ByteArray) : Prop :=
  ∃ A c, v = .slice A L.length c ∧ L.length ≤ c ∧ (0 < L.length → ∃ b o, A = some ⟨b, o, none⟩ ∧ ∀ j (h : j < L.length), w.cell? ⟨b, o + j, none⟩ = some (.string L[j]))
theorem Ss.below {w w' : World} {v : Value} {L : List ByteArray} (h : Ss w v L) (hb : Below w.heap.size w w') : Ss w' v L := by
  obtain ⟨A, c, rfl, hc, ha⟩ := h
  refine ⟨A, c, rfl, hc, fun hn => ?_⟩
  obtain ⟨b, o, rfl, hx⟩ := ha hn
  exact ⟨b, o, rfl, fun j hj => (hb.cell (World.block_lt_of_cell? w _ (hx j hj))).trans (hx j hj)⟩
theorem Ss.shape {w : World} {v : Value} {L : List ByteArray} (h : Ss w v L) : ∃ A c, v = .slice A L.length c := by
  obtain ⟨A, c, rfl, _⟩ := h
  exact ⟨A, c, rfl⟩
theorem Ss.at_ {w : World} {A : Option Addr} {n c : Nat} {L : List ByteArray} (h : Ss w (.slice A n c) L) (j : Nat) (hj : j < L.length) : ∃ b o, A = some ⟨b, o, none⟩ ∧ w.cell? ⟨b, o + j, none⟩ = some (.string L[j]) := by
  obtain ⟨A', c', e, hc, ha⟩ := h
  injection e with e1 e2 e3
  subst e1
  obtain ⟨b, o, rfl, hx⟩ := ha (by omega)
  exact ⟨b, o, rfl, hx j hj⟩

/-- The k-th event of region r + 1. -/
def nx (r k : Nat) (s : ByteArray) (V : List Nat) : Ev := ⟨((r : Int) + 1, k + 1), s, .slice none 0 0, [], V, .slice none 0 0, []⟩
theorem nx_ok (w : World) (r k : Nat) (s : ByteArray) (V : List Nat) (hV : V.length = 16) (h : ∀ n ∈ V, n < 18446744073709551616) : EvOk w (nx r k s V) := ⟨Sl.nil _ _, Se.nil _ _, hV, h⟩
theorem getD_set (V : List Nat) (r n i : Nat) (hr : r < V.length) : (V.set r n).getD i 0 = if i = r then n else V.getD i 0 := by
  rw [List.getD_eq_getElem?_getD, List.getElem?_set, List.getD_eq_getElem?_getD]
  by_cases h : r = i
  · subst h; rw [if_pos rfl, if_pos hr, if_pos rfl]; rfl
  · rw [if_neg h, if_neg (fun e => h e.symm)]
theorem nx_past {V : List Nat} {r k : Nat} (hV : V.length = 16) (hr : r < 16) (hle : ∀ n ∈ V, n ≤ top) (hk : k ≤ 60) : PastOk ((r : Int) + 1, k + 1) (V.set r k) := by
  refine ⟨⟨by show (1 : Int) ≤ (r : Int) + 1; omega, by show (r : Int) + 1 ≤ 16; omega, by show 1 ≤ k + 1; omega, by show k + 1 ≤ top; unfold top; omega⟩, ?_, fun n hn => ?_⟩
  · show at_ (V.set r k) ((r : Int) + 1) + 1 = k + 1
    unfold at_
    rw [show ((r : Int) + 1 - 1).toNat = r by omega, getD_set V r k r (by omega), if_pos rfl]
  · rcases List.mem_or_eq_of_mem_set hn with h | h
    · exact hle n h
    · subst h; unfold top; omega
theorem nx_B {V : List Nat} {r k : Nat} {s : ByteArray} (hV : V.length = 16) (hr : r < 16) (hle : ∀ n ∈ V, n ≤ top) (hk : k ≤ 60) (hs : nameB s = true) : evB (nx r k s (V.set r k)) = true := by
  unfold evB
  rw [show decide (PastOk (nx r k s (V.set r k)).id (nx r k s (V.set r k)).V) = true from decide_eq_true (nx_past hV hr hle hk), show nameB (nx r k s (V.set r k)).topic = true from hs, show toB (nx r k s (V.set r k)).T = true from toB_nil]
  rfl
theorem nx_max {V : List Nat} {r i k : Nat} (hV : V.length = 16) (hr : r < 16) : maxV (V.set r i) (V.set r k) = V.set r i ↔ k ≤ i := by
  rw [maxV_eq_iff _ _ (by simpa using hV)]
  constructor
  · intro h
    have := h r hr
    rwa [getD_set V r k r (by omega), getD_set V r i r (by omega), if_pos rfl, if_pos rfl] at this
  · intro h j hj
    rw [getD_set V r k j (by omega), getD_set V r i j (by omega)]
    split <;> omega
theorem nx_rdy {V : List Nat} {r i k : Nat} {s : ByteArray} (hV : V.length = 16) (hr : r < 16) (hle : ∀ n ∈ V, n ≤ top) (hk : k ≤ 60) (hs : nameB s = true) : rdyB (nx r k s (V.set r k)) (V.set r i) = decide (i = k) := by
  unfold rdyB
  rw [nx_B hV hr hle hk hs]
  have h1 : at_ (V.set r i) (nx r k s (V.set r k)).id.1 = i := by
    show at_ (V.set r i) ((r : Int) + 1) = i
    unfold at_
    rw [show ((r : Int) + 1 - 1).toNat = r by omega, getD_set V r i r (by omega), if_pos rfl]
  rw [h1]
  show (true && (decide (maxV (V.set r i) (V.set r k) = V.set r i) && decide (i + 1 = k + 1))) = _
  rw [Bool.eq_iff_iff, Bool.true_and, Bool.and_eq_true, decide_eq_true_iff, decide_eq_true_iff, decide_eq_true_iff, nx_max hV hr]
  omega
theorem nx_und {V : List Nat} {r i k : Nat} (hV : V.length = 16) (hr : r < 16) (hk : k ≤ 60) : decide (Und (V.set r i) ((r : Int) + 1, k + 1)) = decide (k < i) := by
  rw [Bool.eq_iff_iff, decide_eq_true_iff, decide_eq_true_iff]
  unfold Und at_
  rw [show (((r : Int) + 1, k + 1) : Dt).1 = (r : Int) + 1 from rfl, show ((r : Int) + 1 - 1).toNat = r by omega, getD_set V r i r (by omega), if_pos rfl]
  constructor
  · intro h; have := h.2; exact this
  · intro h
    exact ⟨⟨by show (1 : Int) ≤ (r : Int) + 1; omega, by show (r : Int) + 1 ≤ 16; omega, by show 1 ≤ k + 1; omega, by show k + 1 ≤ top; unfold top; omega⟩, h⟩

theorem bu_nx (r k : Nat) (s : ByteArray) (V : List Nat) (hV : V.length = 16) : Try.prog.built 30 [(0, .agg #[.int .i64 ((r : Int) + 1), .int .u64 ((k : Int) + 1)]), (1, .string s), (3, .agg (uqs V))] = some (evc (nx r k s V)) := by
  match V, hV with
  | [a0, a1, a2, a3, a4, a5, a6, a7, a8, a9, a10, a11, a12, a13, a14, a15], _ => (refine Eq.trans ?_ rfl; kernel_rfl)
theorem yieldsIf_build {P : Program} {ops : Array Oper} {S : World → Prop} {op : Oper} {a : Act} (hw : Region.wanted op (yielded ops a.tmps) = true) (t : TypeId) (parts : Array (Nat × Operand)) (ho : op.op = .build t parts)
    (cells : Array Value) (hc : P.built t (parts.map fun (i, x) => (i, a.eval x)).toList = some cells) : YieldsIf P ops S op (.agg cells) a :=
  .inl ⟨hw, fun w hw' => by
    unfold execOp
    simp only [ho, Sem.run_bind, run_build w t _ cells hc, Result.andThen_ok]
    rfl⟩
theorem nx_one (r k : Nat) (s : ByteArray) (V : List Nat) : (evc (nx r k s V)).all (·.oneCell') = true := all_oneCell_toArray fun v hv => by
  simp only [evl, nx, List.mem_cons, List.mem_append, List.mem_map, List.not_mem_nil, or_false] at hv
  rcases hv with rfl | rfl | rfl | rfl | ⟨n, _, rfl⟩ | rfl <;> rfl
theorem evc_set {x : Ev} (r n : Nat) (hr : r < x.V.length) : (evc x).setIfInBounds (4 + r) (.int .u64 (n : Int)) = evc { x with V := x.V.set r n } := by
  unfold evc evl
  rw [List.setIfInBounds_toArray]
  congr 1
  rw [show 4 + r = r + 1 + 1 + 1 + 1 by omega, List.set_cons_succ, List.set_cons_succ, List.set_cons_succ, List.set_cons_succ, List.set_append, if_pos (by simpa using hr), List.map_set]
  rfl
end Go.Proofs.Ytigepbklpiilpaa

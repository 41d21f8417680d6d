/-
  The walks of the reader's Dot and Vector.
-/
import Derived.Test.YtigepbklpiilpaaReadN
import Derived.Test.YtigepbklpiilpaaVec
import Derived.Test.YtigepbklpiilpaaHeldA
import Derived.IntWalk
namespace Go.Proofs.Ytigepbklpiilpaa
open Go.RowKit
set_option linter.unusedVariables false
set_option linter.unusedSimpArgs false

/-- What turns one block of another element type alone leaves the part and the reader. -/
theorem Part.grown {w w' : World} {g cb : Nat} {t : TypeId} {cs : Array Value} {A : Option Addr} {p l : List UInt8} (h : Part w g A p l) (hb : Blk w cb t cs) (h1 : t ≠ 87) (h2 : t ≠ 5) (hgr : w.grownBy w' (some cb)) : Part w' g A p l := by
  obtain ⟨A', c, hg, hc, hp, hl⟩ := h
  refine ⟨A', c, hg.grown hgr (fun e => hg.ne_ hb (Ne.symm h1) (by injection e)), hc, fun hn => ?_, fun hn => ?_⟩
  · obtain ⟨b, o, cs', e, hB, hx⟩ := hp hn
    exact ⟨b, o, cs', e, hB.grown hgr (fun e => hB.ne_ hb (Ne.symm h2) (by injection e)), hx⟩
  · obtain ⟨b, o, cs', e, hB, hx⟩ := hl hn
    exact ⟨b, o, cs', e, hB.grown hgr (fun e => hB.ne_ hb (Ne.symm h2) (by injection e)), hx⟩
/-- From only g, then only a new block, to only g. -/
theorem grown_via {w W w' : World} {g cb : Nat} (h : w.grownBy W (some g)) (k : W.grownBy w' (some cb)) (hc : w.heap.size ≤ cb) : w.grownBy w' (some g) :=
  ⟨k.os.trans h.os, k.tape.trans h.tape, k.output.trans h.output, Nat.le_trans h.size k.size, fun i hi hne => (k.block i (Nat.lt_of_lt_of_le hi h.size) (fun e => by injection e; omega)).trans (h.block i hi hne)⟩

/-- A slice from its second byte on. -/
theorem Sl.tail {w : World} {b o n : Nat} {p : List UInt8} (h : Sl w (.slice (some ⟨b, o, none⟩) (n + 1) (n + 1)) p) : Sl w (.slice (some ⟨b, o + 1, none⟩) n n) (p.drop 1) := by
  obtain ⟨A, c, e, hc, ha⟩ := h
  injection e with e1 e2 e3
  refine ⟨some ⟨b, o + 1, none⟩, n, by rw [List.length_drop, ← e2, Nat.add_sub_cancel], by rw [List.length_drop, ← e2]; omega, fun hn => ⟨b, o + 1, rfl, fun j hj => ?_⟩⟩
  rw [List.length_drop] at hn hj
  obtain ⟨b', o', e', hx⟩ := ha (by omega)
  rw [← e1] at e'
  injection e' with e'
  injection e' with e4 e5
  subst e4 e5
  have := hx (1 + j) (by omega)
  rw [← Nat.add_assoc] at this
  rw [this, List.getElem_drop]

theorem byte_at {w : World} {b o n c : Nat} {p : List UInt8} (h : Sl w (.slice (some ⟨b, o, none⟩) n c) p) (j : Nat) (hj : j < p.length) : w.cell? ⟨b, o + j, none⟩ = some (.int .u8 (p[j].toNat : Int)) := by
  obtain ⟨A, c', e, hc, ha⟩ := h
  injection e with e1 e2 e3
  obtain ⟨b', o', e', hx⟩ := ha (by omega)
  rw [← e1] at e'
  injection e' with e'
  injection e' with e4 e5
  subst e4 e5
  exact hx j hj

theorem grown_drew {w w' : World} {r : Option Nat} (h : w.grownBy w' r) : w.grownBy w'.drew r := ⟨h.os, h.tape, h.output, h.size, h.block⟩
theorem cell_drew (w : World) (p : Addr) : w.drew.cell? p = w.cell? p := rfl
theorem far_cell {b cb : Nat} (hne : b ≠ cb) (w : World) (o i : Nat) (u : Value) : (w.setCell ⟨cb, i, none⟩ u).cell? ⟨b, o, none⟩ = w.cell? ⟨b, o, none⟩ :=
  World.cell?_setCell_other w _ _ u (fun e => hne (by injection e with e; exact e.symm))

set_option maxHeartbeats 400000 in
theorem dotUse_any (b o cb : Nat) (c0 : UInt8) (q : List UInt8) (x y : Value) (w : World) (hq : q.length ≤ 8) (hs : Sl w (.slice (some ⟨b, o, none⟩) 9 9) (c0 :: q)) (hb : Blk w cb 24 #[x, y]) (hne : b ≠ cb) :
    Calls Try.prog 56 #[.slice (some ⟨b, o, none⟩) 9 9, .pointer (some ⟨cb, 0, none⟩)] w fun e w' =>
      e = .returned (.bool true) ∧ Blk w' cb 24 #[.int .i64 (c0.toNat : Int), .int .u64 (beN q : Int)] ∧ w.grownBy w' (some cb) := by
  have h0 : w.cell? ⟨cb, 0, none⟩ = some x := hb.cell 0
  have h1 : w.cell? ⟨cb, 1, none⟩ = some y := hb.cell 1
  have f0 := hb.frozen 0
  have f1 := hb.frozen 1
  have hby : w.cell? ⟨b, o, none⟩ = some (.int .u8 (c0.toNat : Int)) := byte_at hs 0 (by simp)
  have hlt : c0.toNat < 256 := UInt8.toNat_lt _
  have hwr : IntKind.i64.wrap (c0.toNat : Int) = (c0.toNat : Int) := IntWalk.i64_in _ (by omega)
  have ht : Sl w (.slice (some ⟨b, o + 1, none⟩) 8 8) q := hs.tail
  go_enter Try.func56, Try.ntmps56
  go_wp2_with fail
  go_region_held (fun w' => w'.cell? ⟨b, o, none⟩ = some (.int .u8 (c0.toNat : Int)))
    (first | ((try simp only [cell_drew, far_cell hne]); exact hby))
    (first | (go_at_call 57; refine (number_any _ q _ ht.drew hq).mono ?_; rintro e w' ⟨rfl, rfl⟩))
  go_wp2
  go_ret
  refine ⟨rfl, ?_, ?_⟩
  · exact (((hb.set_ 0 (.int .i64 0)).set_ 1 (.int .u64 0)).set_ 0 (.int .i64 (c0.toNat : Int))).set_ 1 (.int .u64 (beN q : Int))
  · exact grown_drew ((((grown_setCell w cb 0 _).trans (grown_setCell _ cb 1 _)).trans (grown_setCell _ cb 0 _)).trans (grown_setCell _ cb 1 _))

theorem enter_dot : ∀ args w, (callFunc 56 args).run Try.prog w = .ok (.enter 56 args) w := fun _ _ => by kernel_rfl

/-- Dot, of nine bytes that are there. -/
theorem rdot_ok (g : Nat) (l : List UInt8) (c0 : UInt8) (q : List UInt8) (w : World) (hr : Rd w g l) (h9 : 9 ≤ l.length) (hl : l.length ≤ 1000000) (hq : l.take 9 = c0 :: q) :
    Calls Try.prog 40 #[.pointer (some ⟨g, 0, none⟩)] w fun e w' =>
      e = .returned (.agg #[.int .i64 (c0.toNat : Int), .int .u64 (beN q : Int)]) ∧ Rd w' g (l.drop 9) ∧ w.grownBy w' (some g) := by
  have hlt := hr.lt
  have hql : q.length ≤ 8 := by
    have := congrArg List.length hq
    rw [List.length_take, List.length_cons] at this
    omega
  have Hq := Lib.hid hq
  clear hq
  have hmf : ∀ (fn : Fn) (first cap : Array Value) (w : World), (Instr.makeFunc fn first cap).run Try.prog w = .ok (.func fn first cap) w := fun _ _ _ _ => rfl
  go_enter Try.func40, Try.ntmps40
  go_wp2_with fail
  refine (take_ok _ _ g 9 l _ (fun W => Rd W g (l.drop 9) ∧ Blk W (w.heap.size + 1) 24 #[.int .i64 (c0.toNat : Int), .int .u64 (beN q : Int)] ∧ Blk W w.heap.size 24 #[.int .i64 0, .int .u64 0] ∧ w.grownBy W (some g)) ((hr.alloc _).alloc _) h9 hl enter_dot ?_).mono ?_
  · intro A W hp hgr
    have hb : Blk W (w.heap.size + 1) 24 #[.int .i64 0, .int .u64 0] := by
      have := (Blk.new (w.alloc (.cells #[.int .i64 0, .int .u64 0] 24)) 24 #[.int .i64 0, .int .u64 0]).grown hgr (by simp; omega)
      simpa using this
    have hb0 : Blk W w.heap.size 24 #[.int .i64 0, .int .u64 0] := ((Blk.new w _ _).alloc _).grown hgr (by simp; omega)
    have hsl : Sl W (.slice A 9 9) (c0 :: q) := by rw [← Hq.out]; exact hp.sl (by rw [List.length_take]; omega) (Nat.le_refl _)
    have hp2 := hp
    obtain ⟨_, _, _, _, hpa, _⟩ := hp
    obtain ⟨b, o, cs, rfl, hB, _⟩ := hpa (by rw [List.length_take]; omega)
    refine (dotUse_any b o (w.heap.size + 1) c0 q _ _ W hql hsl hb (hB.ne_ hb (by decide))).mono ?_
    rintro e W' ⟨rfl, hB', hg'⟩
    exact ⟨rfl, (hp2.grown hb (by decide) (by decide) hg').rd, hB', hb0.grown hg' (by simp), grown_via (grown_of_alloc (grown_of_alloc hgr)) hg' (by omega)⟩
  rintro e w' ⟨rfl, hR, hB, hB0, hgr⟩
  have c0' : w'.cell? ⟨w.heap.size + 1, 0, none⟩ = some (.int .i64 (c0.toNat : Int)) := hB.cell 0
  have c1' : w'.cell? ⟨w.heap.size + 1, 1, none⟩ = some (.int .u64 (beN q : Int)) := hB.cell 1
  have d0' : w'.cell? ⟨w.heap.size, 0, none⟩ = some (.int .i64 0) := hB0.cell 0
  have d1' : w'.cell? ⟨w.heap.size, 1, none⟩ = some (.int .u64 0) := hB0.cell 1
  have f0' := hB0.frozen 0
  have f1' := hB0.frozen 1
  go_wp2
  have hE := (hB0.set_ 0 (.int .i64 (c0.toNat : Int))).set_ 1 (.int .u64 (beN q : Int))
  refine bodyPost_ret (v := .agg #[.int .i64 (c0.toNat : Int), .int .u64 (beN q : Int)]) (results_cell_row rfl _ _ w.heap.size 24 _ (0, 0) _ rfl hE Try.underlying24 rfl (by kernel_rfl)) rfl ⟨rfl, (hR.far hB0 (by decide) (by decide) _).far (hB0.set_ 0 _) (by decide) (by decide) _, grown_new (grown_new hgr (Nat.le_refl _)) (Nat.le_refl _)⟩
/-- Dot, of too few bytes. -/
theorem rdot_short (g : Nat) (l : List UInt8) (w : World) (hr : Rd w g l) (h9 : l.length < 9) :
    Calls Try.prog 40 #[.pointer (some ⟨g, 0, none⟩)] w fun e w' =>
      e = .returned (.agg #[.int .i64 0, .int .u64 0]) ∧ Fd w' g ∧ w.grownBy w' (some g) := by
  have hlt := hr.lt
  have hmf : ∀ (fn : Fn) (first cap : Array Value) (w : World), (Instr.makeFunc fn first cap).run Try.prog w = .ok (.func fn first cap) w := fun _ _ _ _ => rfl
  go_enter Try.func40, Try.ntmps40
  go_wp2_with fail
  refine (take_short _ g 9 l _ ((hr.alloc _).alloc _) (by omega) (.inr (by omega))).mono ?_
  rintro e w' ⟨rfl, hf, hgr0⟩
  have hB : Blk w' (w.heap.size + 1) 24 #[.int .i64 0, .int .u64 0] := by
    have := (Blk.new (w.alloc (.cells #[.int .i64 0, .int .u64 0] 24)) 24 #[.int .i64 0, .int .u64 0]).grown hgr0 (by simp; omega)
    simpa using this
  have hB0 : Blk w' w.heap.size 24 #[.int .i64 0, .int .u64 0] := ((Blk.new w _ _).alloc _).grown hgr0 (by simp; omega)
  have hgr := grown_of_alloc (grown_of_alloc hgr0)
  have c0' : w'.cell? ⟨w.heap.size + 1, 0, none⟩ = some (.int .i64 0) := hB.cell 0
  have c1' : w'.cell? ⟨w.heap.size + 1, 1, none⟩ = some (.int .u64 0) := hB.cell 1
  have d0' : w'.cell? ⟨w.heap.size, 0, none⟩ = some (.int .i64 0) := hB0.cell 0
  have d1' : w'.cell? ⟨w.heap.size, 1, none⟩ = some (.int .u64 0) := hB0.cell 1
  have f0' := hB0.frozen 0
  have f1' := hB0.frozen 1
  go_wp2
  have hE := (hB0.set_ 0 (.int .i64 0)).set_ 1 (.int .u64 0)
  have hne : g ≠ w.heap.size := by omega
  refine bodyPost_ret (v := .agg #[.int .i64 0, .int .u64 0]) (results_cell_row rfl _ _ w.heap.size 24 _ (0, 0) _ rfl hE Try.underlying24 rfl (by kernel_rfl)) rfl ⟨rfl, (Blk.far hf hne _).far hne _, grown_new (grown_new hgr (Nat.le_refl _)) (Nat.le_refl _)⟩
/-- Dot, of a reader that has failed. -/
theorem rdot_failed (g : Nat) (w : World) (hr : Fd w g) :
    Calls Try.prog 40 #[.pointer (some ⟨g, 0, none⟩)] w fun e w' =>
      e = .returned (.agg #[.int .i64 0, .int .u64 0]) ∧ Fd w' g ∧ w.grownBy w' (some g) := by
  have hlt := hr.lt
  have hmf : ∀ (fn : Fn) (first cap : Array Value) (w : World), (Instr.makeFunc fn first cap).run Try.prog w = .ok (.func fn first cap) w := fun _ _ _ _ => rfl
  go_enter Try.func40, Try.ntmps40
  go_wp2_with fail
  refine (take_failed _ g 9 _ ((hr.alloc _).alloc _)).mono ?_
  rintro e w0 ⟨rfl, rfl⟩
  obtain ⟨w', hw'⟩ : ∃ x : World, x = (w.alloc (.cells #[.int .i64 0, .int .u64 0] 24)).alloc (.cells #[.int .i64 0, .int .u64 0] 24) := ⟨_, rfl⟩
  rw [← hw']
  have hf : Fd w' g := by rw [hw']; exact (hr.alloc _).alloc _
  have hB : Blk w' (w.heap.size + 1) 24 #[.int .i64 0, .int .u64 0] := by
    rw [hw']
    have := Blk.new (w.alloc (.cells #[.int .i64 0, .int .u64 0] 24)) 24 #[.int .i64 0, .int .u64 0]
    simpa using this
  have hB0 : Blk w' w.heap.size 24 #[.int .i64 0, .int .u64 0] := by rw [hw']; exact (Blk.new w _ _).alloc _
  have hgr : w.grownBy w' (some g) := by rw [hw']; exact grown_of_below (((Below.refl _ _).alloc (Nat.le_refl _) _).alloc (by simp) _) _
  clear hw'
  have c0' : w'.cell? ⟨w.heap.size + 1, 0, none⟩ = some (.int .i64 0) := hB.cell 0
  have c1' : w'.cell? ⟨w.heap.size + 1, 1, none⟩ = some (.int .u64 0) := hB.cell 1
  have d0' : w'.cell? ⟨w.heap.size, 0, none⟩ = some (.int .i64 0) := hB0.cell 0
  have d1' : w'.cell? ⟨w.heap.size, 1, none⟩ = some (.int .u64 0) := hB0.cell 1
  have f0' := hB0.frozen 0
  have f1' := hB0.frozen 1
  go_wp2
  have hE := (hB0.set_ 0 (.int .i64 0)).set_ 1 (.int .u64 0)
  have hne : g ≠ w.heap.size := by omega
  refine bodyPost_ret (v := .agg #[.int .i64 0, .int .u64 0]) (results_cell_row rfl _ _ w.heap.size 24 _ (0, 0) _ rfl hE Try.underlying24 rfl (by kernel_rfl)) rfl ⟨rfl, (Blk.far hf hne _).far hne _, grown_new (grown_new hgr (Nat.le_refl _)) (Nat.le_refl _)⟩
end Go.Proofs.Ytigepbklpiilpaa

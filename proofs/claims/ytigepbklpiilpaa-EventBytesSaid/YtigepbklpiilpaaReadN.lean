/-
  The walks of the reader's Number, Bytes and Blob.
-/
import Derived.Test.YtigepbklpiilpaaTakeA
namespace Go.Proofs.Ytigepbklpiilpaa
open Go.RowKit
set_option linter.unusedVariables false

/-- A store into a block of another element type leaves the part and the reader. -/
theorem Part.far {w : World} {g cb i : Nat} {t : TypeId} {cs : Array Value} {A : Option Addr} {p l : List UInt8} (h : Part w g A p l) (hb : Blk w cb t cs) (h1 : t ≠ 87) (h2 : t ≠ 5) (u : Value) : Part (w.setCell ⟨cb, i, none⟩ u) g A p l := by
  obtain ⟨A', c, hg, hc, hp, hl⟩ := h
  refine ⟨A', c, hg.far (hg.ne_ hb (Ne.symm h1)) u, hc, fun hn => ?_, fun hn => ?_⟩
  · obtain ⟨b, o, cs', e, hB, hx⟩ := hp hn
    exact ⟨b, o, cs', e, hB.far (hB.ne_ hb (Ne.symm h2)) u, hx⟩
  · obtain ⟨b, o, cs', e, hB, hx⟩ := hl hn
    exact ⟨b, o, cs', e, hB.far (hB.ne_ hb (Ne.symm h2)) u, hx⟩
theorem Rd.part {w : World} {g : Nat} {l : List UInt8} (h : Rd w g l) : Part w g none [] l := by
  obtain ⟨A, c, hg, hc, ha⟩ := h
  refine ⟨A, c, hg, hc, fun hn => absurd hn (by simp), fun hn => ?_⟩
  obtain ⟨b, o, cs, e, hB, hx⟩ := ha hn
  exact ⟨b, o, cs, e, hB, hx, fun hn => absurd hn (by simp)⟩
theorem Rd.far {w : World} {g cb i : Nat} {t : TypeId} {cs : Array Value} {l : List UInt8} (h : Rd w g l) (hb : Blk w cb t cs) (h1 : t ≠ 87) (h2 : t ≠ 5) (u : Value) : Rd (w.setCell ⟨cb, i, none⟩ u) g l := (h.part.far hb h1 h2 u).rd
theorem Rd.alloc {w : World} {g : Nat} {l : List UInt8} (h : Rd w g l) (o : Obj) : Rd (w.alloc o) g l := h.below ((Below.refl _ _).alloc (Nat.le_refl _) o)
theorem Rd.lt {w : World} {g : Nat} {l : List UInt8} (h : Rd w g l) : g < w.heap.size := by
  obtain ⟨A, c, hg, _⟩ := h
  exact hg.lt
theorem Fd.alloc {w : World} {g : Nat} (h : Fd w g) (o : Obj) : Fd (w.alloc o) g := Blk.alloc h o
theorem Fd.lt {w : World} {g : Nat} (h : Fd w g) : g < w.heap.size := Blk.lt h

/-- From a world with one new block to the world ahead of it. -/
theorem grown_of_alloc {w w' : World} {o : Obj} {g : Nat} (h : (w.alloc o).grownBy w' (some g)) : w.grownBy w' (some g) :=
  ⟨h.os, h.tape, h.output, Nat.le_trans (by simp) h.size, fun k hk hne => (h.block k (by simp; omega) hne).trans (Below.heap_alloc _ _ _ hk)⟩
/-- A store into a block that is new. -/
theorem grown_new {w w' : World} {g cb i : Nat} {u : Value} (h : w.grownBy w' (some g)) (hc : w.heap.size ≤ cb) : w.grownBy (w'.setCell ⟨cb, i, none⟩ u) (some g) :=
  ⟨h.os, h.tape, h.output, by simpa [World.setCell] using h.size, fun k hk hne => (Below.heap_setCell _ _ _ _ (by simp; omega)).trans (h.block k hk hne)⟩
theorem grown_refl (w : World) (row : Option Nat) : w.grownBy w row := World.grownBy.refl w row

/-- What only turns the reader's own block leaves the part. -/
theorem Part.sl_grown {w w' : World} {g : Nat} {A : Option Addr} {p l : List UInt8} {n c : Nat} (h : Part w g A p l) (hgr : w.grownBy w' (some g)) (hn : n = p.length) (hc : n ≤ c) : Sl w' (.slice A n c) p := by
  subst hn
  obtain ⟨A', c', hg, _, ha, _⟩ := h
  refine ⟨A, c, rfl, hc, fun hn => ?_⟩
  obtain ⟨b, o, cs, e, hB, hx⟩ := ha hn
  have hB' := hB.grown hgr (fun e => hB.ne_ hg (by decide) (by injection e))
  exact ⟨b, o, e, fun j hj => by rw [hB'.cell]; exact hx j hj⟩
theorem Below.only {B g : Nat} {a w w' : World} (h : Below B a w) (hgr : w.grownBy w' (some g)) (hg : B ≤ g) (hB : B ≤ w.heap.size) : Below B a w' :=
  h.grown hgr hB (fun k hk => by injection hk with hk; omega)

theorem enter_number : ∀ args w, (callFunc 67 args).run Try.prog w = .ok (.enter 67 args) w := fun _ _ => by kernel_rfl
theorem enter_bytes : ∀ args w, (callFunc 66 args).run Try.prog w = .ok (.enter 66 args) w := fun _ _ => by kernel_rfl

theorem numberUse_yes (A : Option Addr) (n c cb : Nat) (p : List UInt8) (x : Value) (w : World) (hs : Sl w (.slice A n c) p) (h1 : 1 ≤ p.length) (h8 : p.length ≤ 8) (hb : Blk w cb 22 #[x]) :
    Calls Try.prog 67 #[.slice A n c, .pointer (some ⟨cb, 0, none⟩)] w fun e w' => e = .returned (.bool true) ∧ w' = w.setCell ⟨cb, 0, none⟩ (.int .u64 (beN p : Int)) := by
  have h0 : w.cell? ⟨cb, 0, none⟩ = some x := hb.cell 0
  have f0 := hb.frozen 0
  go_enter Try.func67, Try.ntmps67
  go_wp2_with fail
  refine (get_yes _ p _ hs h1 h8).mono ?_
  rintro e w' ⟨rfl, rfl⟩
  go_wp2
  go_ret
  exact ⟨rfl, rfl⟩
theorem numberUse_no (A : Option Addr) (n c cb : Nat) (p : List UInt8) (x : Value) (w : World) (hs : Sl w (.slice A n c) p) (h1 : p.length < 1 ∨ 8 < p.length) (hb : Blk w cb 22 #[x]) :
    Calls Try.prog 67 #[.slice A n c, .pointer (some ⟨cb, 0, none⟩)] w fun e w' => e = .returned (.bool false) ∧ w' = w.setCell ⟨cb, 0, none⟩ (.int .u64 0) := by
  have h0 : w.cell? ⟨cb, 0, none⟩ = some x := hb.cell 0
  have f0 := hb.frozen 0
  go_enter Try.func67, Try.ntmps67
  go_wp2_with fail
  refine (get_no _ p _ hs h1).mono ?_
  rintro e w' ⟨rfl, rfl⟩
  go_wp2
  go_ret
  exact ⟨rfl, rfl⟩

/-- Number, of 1 to 8 bytes that are there. -/
theorem number_ok (g s : Nat) (l : List UInt8) (w : World) (hr : Rd w g l) (h1 : 1 ≤ s) (h8 : s ≤ 8) (hs : s ≤ l.length) (hl : l.length ≤ 1000000) :
    Calls Try.prog 59 #[.pointer (some ⟨g, 0, none⟩), .int .i64 (s : Int)] w fun e w' =>
      e = .returned (.int .u64 (beN (l.take s) : Int)) ∧ Rd w' g (l.drop s) ∧ w.grownBy w' (some g) := by
  have hlt := hr.lt
  have hmf : ∀ (fn : Fn) (first cap : Array Value) (w : World), (Instr.makeFunc fn first cap).run Try.prog w = .ok (.func fn first cap) w := fun _ _ _ _ => rfl
  go_enter Try.func59, Try.ntmps59
  go_wp2_with fail
  refine (take_ok _ _ g s l _ (fun W => Rd W g (l.drop s) ∧ W.cell? ⟨w.heap.size, 0, none⟩ = some (.int .u64 (beN (l.take s) : Int)) ∧ w.grownBy W (some g)) (hr.alloc _) hs hl enter_number ?_).mono ?_
  · intro A W hp hgr
    have hb : Blk W w.heap.size 22 #[.int .u64 0] := (Blk.new w _ _).grown hgr (by simp; omega)
    refine (numberUse_yes A s s w.heap.size (l.take s) _ W (hp.sl (by rw [List.length_take]; omega) (Nat.le_refl _)) (by rw [List.length_take]; omega) (by rw [List.length_take]; omega) hb).mono ?_
    rintro e W' ⟨rfl, rfl⟩
    exact ⟨rfl, (hp.far hb (by decide) (by decide) _).rd, (hb.set_ 0 _).cell 0, grown_new (grown_of_alloc hgr) (Nat.le_refl _)⟩
  rintro e w' ⟨rfl, hR, hcell, hgr⟩
  go_wp2
  go_ret
  exact ⟨rfl, hR, hgr⟩
/-- Number, of a size that may not be. -/
theorem number_size (g s : Nat) (l : List UInt8) (w : World) (hr : Rd w g l) (h1 : s < 1 ∨ 8 < s) (hs : s ≤ l.length) (hl : l.length ≤ 1000000) :
    Calls Try.prog 59 #[.pointer (some ⟨g, 0, none⟩), .int .i64 (s : Int)] w fun e w' =>
      e = .returned (.int .u64 0) ∧ Fd w' g ∧ w.grownBy w' (some g) := by
  have hlt := hr.lt
  have hmf : ∀ (fn : Fn) (first cap : Array Value) (w : World), (Instr.makeFunc fn first cap).run Try.prog w = .ok (.func fn first cap) w := fun _ _ _ _ => rfl
  go_enter Try.func59, Try.ntmps59
  go_wp2_with fail
  refine (take_false _ _ g s l _ (fun W => Rd W g (l.drop s) ∧ Blk W w.heap.size 22 #[.int .u64 0] ∧ w.grownBy W (some g)) (hr.alloc _) hs hl enter_number ?_ ?_).mono ?_
  · rintro W ⟨⟨A, c, hb, _⟩, _⟩
    exact ⟨_, _, hb⟩
  · intro A W hp hgr
    have hb : Blk W w.heap.size 22 #[.int .u64 0] := (Blk.new w _ _).grown hgr (by simp; omega)
    refine (numberUse_no A s s w.heap.size (l.take s) _ W (hp.sl (by rw [List.length_take]; omega) (Nat.le_refl _)) (by rw [List.length_take]; omega) hb).mono ?_
    rintro e W' ⟨rfl, rfl⟩
    exact ⟨rfl, (hp.far hb (by decide) (by decide) _).rd, hb.set_ 0 _, grown_new (grown_of_alloc hgr) (Nat.le_refl _)⟩
  rintro e w' ⟨rfl, W, ⟨_, hB, hg1⟩, hf, hg2⟩
  have hcell : w'.cell? ⟨w.heap.size, 0, none⟩ = some (.int .u64 0) := (hB.grown hg2 (by simp; omega)).cell 0
  go_wp2
  go_ret
  exact ⟨rfl, hf, hg1.trans hg2⟩
/-- Number, of more bytes than there are, or fewer than none. -/
theorem number_short (g : Nat) (s : Int) (l : List UInt8) (w : World) (hr : Rd w g l) (hs : s < 0 ∨ (l.length : Int) < s) (hl : l.length ≤ 1000000) :
    Calls Try.prog 59 #[.pointer (some ⟨g, 0, none⟩), .int .i64 s] w fun e w' =>
      e = .returned (.int .u64 0) ∧ Fd w' g ∧ w.grownBy w' (some g) := by
  have hlt := hr.lt
  have hmf : ∀ (fn : Fn) (first cap : Array Value) (w : World), (Instr.makeFunc fn first cap).run Try.prog w = .ok (.func fn first cap) w := fun _ _ _ _ => rfl
  have Hs := Lib.hid hs
  clear hs
  go_enter Try.func59, Try.ntmps59
  go_wp2_with fail
  refine (take_short _ g s l _ (hr.alloc _) hl Hs.out).mono ?_
  rintro e w' ⟨rfl, hf, hgr⟩
  have hcell : w'.cell? ⟨w.heap.size, 0, none⟩ = some (.int .u64 0) := ((Blk.new w _ _).grown hgr (by simp; omega)).cell 0
  go_wp2
  go_ret
  exact ⟨rfl, hf, grown_of_alloc hgr⟩
/-- Number, of a reader that has failed. -/
theorem number_failed (g : Nat) (s : Int) (w : World) (hr : Fd w g) :
    Calls Try.prog 59 #[.pointer (some ⟨g, 0, none⟩), .int .i64 s] w fun e w' =>
      e = .returned (.int .u64 0) ∧ Fd w' g ∧ w.grownBy w' (some g) := by
  have hmf : ∀ (fn : Fn) (first cap : Array Value) (w : World), (Instr.makeFunc fn first cap).run Try.prog w = .ok (.func fn first cap) w := fun _ _ _ _ => rfl
  go_enter Try.func59, Try.ntmps59
  go_wp2_with fail
  refine (take_failed _ g s _ (hr.alloc _)).mono ?_
  rintro e w' ⟨rfl, rfl⟩
  go_wp2
  go_ret
  exact ⟨rfl, hr.alloc _, grown_of_below ((Below.refl _ _).alloc (Nat.le_refl _) _) _⟩

/-- Bytes, of so many that are there. -/
theorem bytes_ok (g s : Nat) (l : List UInt8) (w : World) (hr : Rd w g l) (hs : s ≤ l.length) (hl : l.length ≤ 1000000) :
    Calls Try.prog 58 #[.pointer (some ⟨g, 0, none⟩), .int .i64 (s : Int)] w fun e w' =>
      ∃ A, e = .returned (.slice A s s) ∧ Part w' g A (l.take s) (l.drop s) ∧ w.grownBy w' (some g) := by
  have hlt := hr.lt
  have hmf : ∀ (fn : Fn) (first cap : Array Value) (w : World), (Instr.makeFunc fn first cap).run Try.prog w = .ok (.func fn first cap) w := fun _ _ _ _ => rfl
  go_enter Try.func58, Try.ntmps58
  go_wp2_with fail
  refine (take_ok _ _ g s l _ (fun W => ∃ A, Part W g A (l.take s) (l.drop s) ∧ W.cell? ⟨w.heap.size, 0, none⟩ = some (.slice A s s) ∧ w.grownBy W (some g)) (hr.alloc _) hs hl enter_bytes ?_).mono ?_
  · intro A W hp hgr
    have hb : Blk W w.heap.size 25 #[.slice none 0 0] := (Blk.new w _ _).grown hgr (by simp; omega)
    refine (bytesUse_any A s s w.heap.size _ W hb).mono ?_
    rintro e W' ⟨rfl, rfl⟩
    exact ⟨rfl, A, hp.far hb (by decide) (by decide) _, (hb.set_ 0 _).cell 0, grown_new (grown_of_alloc hgr) (Nat.le_refl _)⟩
  rintro e w' ⟨rfl, A, hR, hcell, hgr⟩
  go_wp2
  go_ret
  exact ⟨A, rfl, hR, hgr⟩
theorem bytes_short (g : Nat) (s : Int) (l : List UInt8) (w : World) (hr : Rd w g l) (hs : s < 0 ∨ (l.length : Int) < s) (hl : l.length ≤ 1000000) :
    Calls Try.prog 58 #[.pointer (some ⟨g, 0, none⟩), .int .i64 s] w fun e w' =>
      e = .returned (.slice none 0 0) ∧ Fd w' g ∧ w.grownBy w' (some g) := by
  have hlt := hr.lt
  have hmf : ∀ (fn : Fn) (first cap : Array Value) (w : World), (Instr.makeFunc fn first cap).run Try.prog w = .ok (.func fn first cap) w := fun _ _ _ _ => rfl
  have Hs := Lib.hid hs
  clear hs
  go_enter Try.func58, Try.ntmps58
  go_wp2_with fail
  refine (take_short _ g s l _ (hr.alloc _) hl Hs.out).mono ?_
  rintro e w' ⟨rfl, hf, hgr⟩
  have hcell : w'.cell? ⟨w.heap.size, 0, none⟩ = some (.slice none 0 0) := ((Blk.new w _ _).grown hgr (by simp; omega)).cell 0
  go_wp2
  go_ret
  exact ⟨rfl, hf, grown_of_alloc hgr⟩
theorem bytes_failed (g : Nat) (s : Int) (w : World) (hr : Fd w g) :
    Calls Try.prog 58 #[.pointer (some ⟨g, 0, none⟩), .int .i64 s] w fun e w' =>
      e = .returned (.slice none 0 0) ∧ Fd w' g ∧ w.grownBy w' (some g) := by
  have hmf : ∀ (fn : Fn) (first cap : Array Value) (w : World), (Instr.makeFunc fn first cap).run Try.prog w = .ok (.func fn first cap) w := fun _ _ _ _ => rfl
  go_enter Try.func58, Try.ntmps58
  go_wp2_with fail
  refine (take_failed _ g s _ (hr.alloc _)).mono ?_
  rintro e w' ⟨rfl, rfl⟩
  go_wp2
  go_ret
  exact ⟨rfl, hr.alloc _, grown_of_below ((Below.refl _ _).alloc (Nat.le_refl _) _) _⟩

/-- Blob: a length that is there, and so many bytes behind it. -/
theorem rblob_ok (g n : Nat) (l : List UInt8) (w : World) (hr : Rd w g l) (h2 : 2 ≤ l.length) (hn : n = beN (l.take 2)) (hs : n ≤ (l.drop 2).length) (hl : l.length ≤ 1000000) :
    Calls Try.prog 41 #[.pointer (some ⟨g, 0, none⟩)] w fun e w' =>
      ∃ A, e = .returned (.slice A n n) ∧ Part w' g A ((l.drop 2).take n) ((l.drop 2).drop n) ∧ w.grownBy w' (some g) := by
  have Hn := Lib.hid hn
  have hle : (l.drop 2).length ≤ 1000000 := by rw [List.length_drop]; omega
  have hnb : n ≤ 1000000 := by omega
  clear hn
  go_enter Try.func41, Try.ntmps41
  go_wp2_with fail
  refine (number_ok g 2 l w hr (by omega) (by omega) h2 hl).mono ?_
  rintro e w1 ⟨rfl, hR, hgr⟩
  rw [← Hn.out]
  go_wp2_with fail
  refine (bytes_ok g n (l.drop 2) w1 hR hs hle).mono ?_
  rintro e w2 ⟨A, rfl, hP, hgr2⟩
  have HP := Lib.hid hP
  clear hP
  go_wp2
  go_ret
  exact ⟨A, rfl, HP.out, hgr.trans hgr2⟩
/-- Blob: a length that is there, and too few bytes behind it. -/
theorem rblob_few (g n : Nat) (l : List UInt8) (w : World) (hr : Rd w g l) (h2 : 2 ≤ l.length) (hn : n = beN (l.take 2)) (hs : (l.drop 2).length < n) (hl : l.length ≤ 1000000) :
    Calls Try.prog 41 #[.pointer (some ⟨g, 0, none⟩)] w fun e w' =>
      e = .returned (.slice none 0 0) ∧ Fd w' g ∧ w.grownBy w' (some g) := by
  have Hn := Lib.hid hn
  have hle : (l.drop 2).length ≤ 1000000 := by rw [List.length_drop]; omega
  have hnb : n ≤ 65535 := by
    have := beN_lt (l.take 2)
    rw [List.length_take, Nat.min_eq_left h2] at this
    omega
  clear hn
  go_enter Try.func41, Try.ntmps41
  go_wp2_with fail
  refine (number_ok g 2 l w hr (by omega) (by omega) h2 hl).mono ?_
  rintro e w1 ⟨rfl, hR, hgr⟩
  rw [← Hn.out]
  go_wp2_with fail
  refine (bytes_short g (n : Int) (l.drop 2) w1 hR (.inr (by omega)) hle).mono ?_
  rintro e w2 ⟨rfl, hP, hgr2⟩
  go_wp2
  go_ret
  exact ⟨rfl, hP, hgr.trans hgr2⟩
/-- Blob: no length is there. -/
theorem rblob_short (g : Nat) (l : List UInt8) (w : World) (hr : Rd w g l) (h2 : l.length < 2) :
    Calls Try.prog 41 #[.pointer (some ⟨g, 0, none⟩)] w fun e w' =>
      e = .returned (.slice none 0 0) ∧ Fd w' g ∧ w.grownBy w' (some g) := by
  go_enter Try.func41, Try.ntmps41
  go_wp2_with fail
  refine (number_short g 2 l w hr (.inr (by omega)) (by omega)).mono ?_
  rintro e w1 ⟨rfl, hR, hgr⟩
  go_wp2_with fail
  refine (bytes_failed g 0 w1 hR).mono ?_
  rintro e w2 ⟨rfl, hP, hgr2⟩
  go_wp2
  go_ret
  exact ⟨rfl, hP, hgr.trans hgr2⟩
theorem rblob_failed (g : Nat) (w : World) (hr : Fd w g) :
    Calls Try.prog 41 #[.pointer (some ⟨g, 0, none⟩)] w fun e w' =>
      e = .returned (.slice none 0 0) ∧ Fd w' g ∧ w.grownBy w' (some g) := by
  go_enter Try.func41, Try.ntmps41
  go_wp2_with fail
  refine (number_failed g 2 w hr).mono ?_
  rintro e w1 ⟨rfl, hR, hgr⟩
  go_wp2_with fail
  refine (bytes_failed g 0 w1 hR).mono ?_
  rintro e w2 ⟨rfl, hP, hgr2⟩
  go_wp2
  go_ret
  exact ⟨rfl, hP, hgr.trans hgr2⟩
end Go.Proofs.Ytigepbklpiilpaa

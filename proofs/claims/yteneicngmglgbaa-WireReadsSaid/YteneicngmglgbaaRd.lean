/-
  A reader in memory; the walks of wire's Failed, Left, End, fail, slices.Clone and Read.
-/
import Derived.Test.YteneicngmglgbaaJoin
namespace Go.Proofs.Yteneicngmglgbaa
open Go.RowKit
set_option linter.unusedVariables false

/-- The reader in block g stands at the front of the bytes l, and has not failed. -/
def Rd (w : World) (g : Nat) (l : List UInt8) : Prop :=
  ∃ A c, Blk w g 78 #[.slice A l.length c, .int .i64 1] ∧ l.length ≤ c ∧
    (0 < l.length → ∃ b o cs, A = some ⟨b, o, none⟩ ∧ Blk w b 5 cs ∧ ∀ j (h : j < l.length), cs[o + j]? = some (.int .u8 (l[j].toNat : Int)))
/-- The reader in block g has failed. -/
def Fd (w : World) (g : Nat) : Prop := Blk w g 78 #[.slice none 0 0, .int .i64 2]

theorem Rd.below {w w' : World} {g : Nat} {l : List UInt8} (h : Rd w g l) (hb : Below w.heap.size w w') : Rd w' g l := by
  obtain ⟨A, c, hg, hc, ha⟩ := h
  refine ⟨A, c, hg.below hb hg.lt, hc, fun hn => ?_⟩
  obtain ⟨b, o, cs, rfl, hB, hx⟩ := ha hn
  exact ⟨b, o, cs, rfl, hB.below hb hB.lt, hx⟩
theorem Fd.below {w w' : World} {g : Nat} (h : Fd w g) (hb : Below w.heap.size w w') : Fd w' g := Blk.below h hb (Blk.lt h)
theorem Rd.sl {w : World} {g : Nat} {l : List UInt8} {A : Option Addr} {n c : Nat} (h : Rd w g l) (hg : w.cell? ⟨g, 0, none⟩ = some (.slice A n c)) : Sl w (.slice A n c) l := by
  obtain ⟨A', c', hg', hc, ha⟩ := h
  have e : w.cell? ⟨g, 0, none⟩ = some (.slice A' l.length c') := hg'.cell 0
  rw [e] at hg
  injection hg with hg
  injection hg with h1 h2 h3
  subst h1 h2 h3
  refine ⟨A', c', rfl, hc, fun hn => ?_⟩
  obtain ⟨b, o, cs, rfl, hB, hx⟩ := ha hn
  exact ⟨b, o, rfl, fun j hj => by rw [hB.cell]; exact hx j hj⟩

theorem failed_no (g : Nat) (l : List UInt8) (w : World) (h : Rd w g l) :
    Calls Try.prog 33 #[.pointer (some ⟨g, 0, none⟩)] w fun e w' => e = .returned (.bool false) ∧ w = w' := by
  obtain ⟨A, c, hg, hc, ha⟩ := h
  clear ha
  have h1 : w.cell? ⟨g, 1, none⟩ = some (.int .i64 1) := hg.cell 1
  go_enter Try.func33, Try.ntmps33
  go_wp2
  go_ret
  exact ⟨rfl, rfl⟩
theorem failed_yes (g : Nat) (w : World) (h : Fd w g) :
    Calls Try.prog 33 #[.pointer (some ⟨g, 0, none⟩)] w fun e w' => e = .returned (.bool true) ∧ w = w' := by
  have h1 : w.cell? ⟨g, 1, none⟩ = some (.int .i64 2) := Blk.cell h 1
  go_enter Try.func33, Try.ntmps33
  go_wp2
  go_ret
  exact ⟨rfl, rfl⟩
theorem left_no (g : Nat) (l : List UInt8) (w : World) (h : Rd w g l) :
    Calls Try.prog 31 #[.pointer (some ⟨g, 0, none⟩)] w fun e w' => e = .returned (.int .i64 (l.length : Int)) ∧ w = w' := by
  have h' := h
  obtain ⟨A, c, hg, hc, ha⟩ := h
  clear ha
  have h0 : w.cell? ⟨g, 0, none⟩ = some (.slice A l.length c) := hg.cell 0
  go_enter Try.func31, Try.ntmps31
  go_wp2_with fail
  refine (failed_no g l _ h').mono ?_
  rintro e w' ⟨rfl, rfl⟩
  go_wp2
  go_ret
  exact ⟨rfl, rfl⟩
theorem left_yes (g : Nat) (w : World) (h : Fd w g) :
    Calls Try.prog 31 #[.pointer (some ⟨g, 0, none⟩)] w fun e w' => e = .returned (.int .i64 0) ∧ w = w' := by
  go_enter Try.func31, Try.ntmps31
  go_wp2_with fail
  refine (failed_yes g _ h).mono ?_
  rintro e w' ⟨rfl, rfl⟩
  go_wp2
  go_ret
  exact ⟨rfl, rfl⟩
/-- End, of one that has not failed. -/
theorem end_no (g : Nat) (l : List UInt8) (w : World) (h : Rd w g l) :
    Calls Try.prog 34 #[.pointer (some ⟨g, 0, none⟩)] w fun e w' => e = .returned (.int .i64 (if l = [] then 0 else 4)) ∧ w = w' := by
  obtain ⟨A, c, hg, hc, ha⟩ := h
  clear ha
  have h0 : w.cell? ⟨g, 0, none⟩ = some (.slice A l.length c) := hg.cell 0
  have h1 : w.cell? ⟨g, 1, none⟩ = some (.int .i64 1) := hg.cell 1
  cases l with
  | nil =>
    go_enter Try.func34, Try.ntmps34
    go_wp2
    go_ret
    exact ⟨rfl, rfl⟩
  | cons x l =>
    have hp : 0 < ((x :: l).length : Int) := by simp
    go_enter Try.func34, Try.ntmps34
    go_wp2
    go_ret
    exact ⟨rfl, rfl⟩
theorem end_yes (g : Nat) (w : World) (h : Fd w g) :
    Calls Try.prog 34 #[.pointer (some ⟨g, 0, none⟩)] w fun e w' => e = .returned (.int .i64 4) ∧ w = w' := by
  have h0 : w.cell? ⟨g, 0, none⟩ = some (.slice none 0 0) := Blk.cell h 0
  have h1 : w.cell? ⟨g, 1, none⟩ = some (.int .i64 2) := Blk.cell h 1
  go_enter Try.func34, Try.ntmps34
  go_wp2
  go_ret
  exact ⟨rfl, rfl⟩

/-- fail. -/
theorem fail_any (g : Nat) (v u : Value) (w : World) (h : Blk w g 78 #[v, u]) :
    Calls Try.prog 56 #[.pointer (some ⟨g, 0, none⟩)] w fun e w' => e = .returned (.tuple #[]) ∧ Fd w' g ∧ w.grownBy w' (some g) := by
  have h0 : w.cell? ⟨g, 0, none⟩ = some v := h.cell 0
  have h1 : w.cell? ⟨g, 1, none⟩ = some u := h.cell 1
  have f0 := h.frozen 0
  have f1 := h.frozen 1
  go_enter Try.func56, Try.ntmps56
  go_wp2
  go_end0
  refine ⟨rfl, (h.set_ 0 _).set_ 1 _, ?_⟩
  refine ⟨rfl, rfl, rfl, by simp [World.setCell], fun k _ hne => ?_⟩
  have hk : k ≠ g := fun e => hne (by rw [e])
  rw [Below.heap_setCell _ _ _ _ hk, Below.heap_setCell _ _ _ _ hk]

set_option maxHeartbeats 400000 in
theorem clone_any (v : Value) (l : List UInt8) (w : World) (hs : Sl w v l) (hl : l.length ≤ 1000000) :
    Calls Try.prog 44 #[v] w fun e w' => ∃ v', e = .returned v' ∧ Own w' w.heap.size 5 v' l ∧ Below w.heap.size w w' := by
  obtain ⟨i0, hi, hz0, hz1, hz2⟩ := info_parts info_u8
  have hs' := hs
  obtain ⟨A, c, rfl, hc, ha⟩ := hs
  have heq := fun (w : World) (a : Option Addr) (n c : Nat) => Lib.run_eql_slice_nil (P := Try.prog) w 23 5 a n c 0 0 Try.underlying23
  cases A with
  | none =>
    have h0 : l = [] := by
      rcases Nat.eq_zero_or_pos l.length with h0 | h0
      · exact List.eq_nil_of_length_eq_zero h0
      · obtain ⟨b, o, h, _⟩ := ha h0
        cases h
    subst h0
    clear ha
    go_enter Try.func44, Try.ntmps44
    go_wp2
    go_ret
    exact ⟨_, rfl, Own.nil, Below.refl _ _⟩
  | some ad =>
    clear ha
    have Ho := Lib.hid (Own.of_new w w.heap.size 5 #[] [] 0 (Nat.le_refl _) rfl rfl (by simp))
    have Hl := Lib.hid (show ([] : List UInt8).length + l.length ≤ 1000000000 by simp; omega)
    go_enter Try.func44, Try.ntmps44
    go_wp2_with (at_builtin; refine wpList_append_bytes _ rfl _ _ 23 rfl w.heap.size 5 i0 Try.underlying23 hi hz0 hz1 hz2 _ [] rfl Ho.out _ l rfl (hs'.alloc _) Hl.out (by simp) ?_)
    intro v2 w2 ho2 hb2
    have Ho2 := Lib.hid ho2
    clear ho2
    go_wp2
    go_ret
    exact ⟨_, rfl, Ho2.out, ((Below.refl _ _).alloc (Nat.le_refl _) _).trans hb2⟩

/-- What slices.Clone gave, laid into a new reader. -/
theorem Rd.of_own {w : World} {v : Value} {l : List UInt8} {base : Nat} (h : Own w base 5 v l) : Rd (w.alloc (.cells #[v, .int .i64 1] 78)) w.heap.size l := by
  rcases h.2 with ⟨rfl, h0⟩ | ⟨g, cap, cur, rfl, _, hh, hnc, _, hs, ht⟩
  · refine ⟨none, 0, by rw [h0]; exact Blk.new _ _ _, by omega, fun hn => absurd hn (by omega)⟩
  · refine ⟨_, cap, Blk.new _ _ _, hnc, fun hn => ⟨g, 0, cur, rfl, Blk.alloc hh _, fun j hj => ?_⟩⟩
    have e : (cur.toList.take (l.length * 1))[j]? = (l.map bv)[j]? := by rw [ht]
    rw [Nat.mul_one, List.getElem?_take_of_lt hj, Array.getElem?_toList] at e
    rw [Nat.zero_add, e]
    simp [List.getElem?_eq_getElem hj, bv]

theorem read_any (v : Value) (l : List UInt8) (w : World) (hs : Sl w v l) (hl : l.length ≤ 1000000) :
    Calls Try.prog 29 #[v] w fun e w' => ∃ g, e = .returned (.pointer (some ⟨g, 0, none⟩)) ∧ w.heap.size ≤ g ∧ Rd w' g l ∧ Below w.heap.size w w' := by
  go_enter Try.func29, Try.ntmps29
  go_wp2_with fail
  refine (clone_any v l _ hs hl).mono ?_
  rintro e w1 ⟨v1, rfl, ho, hb⟩
  obtain ⟨A1, n1, c1, rfl⟩ := ho.shape
  have Ho := Lib.hid ho
  clear ho
  go_wp2
  go_ret
  exact ⟨_, rfl, hb.size, Rd.of_own Ho.out, hb.alloc hb.size _⟩
end Go.Proofs.Yteneicngmglgbaa

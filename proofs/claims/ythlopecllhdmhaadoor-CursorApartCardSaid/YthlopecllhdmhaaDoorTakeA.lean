/-
  A reader in memory; the walks of wire's Failed, Left, End, fail, slices.Clone and Read.
-/
import Derived.Test.YthlopecllhdmhaaDoorJoin
import Derived.Test.YthlopecllhdmhaaDoorEvMem
namespace Go.Proofs.YthlopecllhdmhaaDoor
open Go.RowKit
set_option linter.unusedVariables false

/-- The reader in block g stands at the front of the bytes l, and has not failed. -/
def Rd (w : World) (g : Nat) (l : List UInt8) : Prop :=
  ∃ A c, Blk w g 65 #[.slice A l.length c, .int .i64 1] ∧ l.length ≤ c ∧
    (0 < l.length → ∃ b o cs, A = some ⟨b, o, none⟩ ∧ Blk w b 5 cs ∧ ∀ j (h : j < l.length), cs[o + j]? = some (.int .u8 (l[j].toNat : Int)))
/-- The reader in block g has failed. -/
def Fd (w : World) (g : Nat) : Prop := Blk w g 65 #[.slice none 0 0, .int .i64 2]

theorem Rd.below {w w' : World} {g : Nat} {l : List UInt8} (h : Rd w g l) (hb : Below w.heap.size w w') : Rd w' g l := by
  obtain ⟨A, c, hg, hc, ha⟩ := h
  refine ⟨A, c, hg.below hb hg.lt, hc, fun hn => ?_⟩
  obtain ⟨b, o, cs, rfl, hB, hx⟩ := ha hn
  exact ⟨b, o, cs, rfl, hB.below hb hB.lt, hx⟩
theorem Fd.below {w w' : World} {g : Nat} (h : Fd w g) (hb : Below w.heap.size w w') : Fd w' g := Blk.below h hb (Blk.lt h)
theorem Rd.sl {w : World} {g : Nat} {l : List UInt8} {A : Option Addr} {n c : Nat} (h : Rd w g l) (hg : w.cell? ⟨g, 0, none⟩ = some (.slice A n c)) : Sl w (.slice A n c) l := by
  obtain ⟨A', c', hg', hc, ha⟩ := h
  have e : w.cell? ⟨g, 0, none⟩ = some (.slice A' l.length c') := hg'.cell 0
  rw [e] at hg
  injection hg with hg
  injection hg with h1 h2 h3
  subst h1 h2 h3
  refine ⟨A', c', rfl, hc, fun hn => ?_⟩
  obtain ⟨b, o, cs, rfl, hB, hx⟩ := ha hn
  exact ⟨b, o, rfl, fun j hj => by rw [hB.cell]; exact hx j hj⟩

theorem failed_no (g : Nat) (l : List UInt8) (w : World) (h : Rd w g l) :
    Calls Tryd.prog 47 #[.pointer (some ⟨g, 0, none⟩)] w fun e w' => e = .returned (.bool false) ∧ w = w' := by
  obtain ⟨A, c, hg, hc, ha⟩ := h
  clear ha
  have h1 : w.cell? ⟨g, 1, none⟩ = some (.int .i64 1) := hg.cell 1
  go_enter Tryd.func47, Tryd.ntmps47
  go_wp2
  go_ret
  exact ⟨rfl, rfl⟩
theorem failed_yes (g : Nat) (w : World) (h : Fd w g) :
    Calls Tryd.prog 47 #[.pointer (some ⟨g, 0, none⟩)] w fun e w' => e = .returned (.bool true) ∧ w = w' := by
  have h1 : w.cell? ⟨g, 1, none⟩ = some (.int .i64 2) := Blk.cell h 1
  go_enter Tryd.func47, Tryd.ntmps47
  go_wp2
  go_ret
  exact ⟨rfl, rfl⟩
/-- fail. -/
theorem fail_any (g : Nat) (v u : Value) (w : World) (h : Blk w g 65 #[v, u]) :
    Calls Tryd.prog 48 #[.pointer (some ⟨g, 0, none⟩)] w fun e w' => e = .returned (.tuple #[]) ∧ Fd w' g ∧ w.grownBy w' (some g) := by
  have h0 : w.cell? ⟨g, 0, none⟩ = some v := h.cell 0
  have h1 : w.cell? ⟨g, 1, none⟩ = some u := h.cell 1
  have f0 := h.frozen 0
  have f1 := h.frozen 1
  go_enter Tryd.func48, Tryd.ntmps48
  go_wp2
  go_end0
  refine ⟨rfl, (h.set_ 0 _).set_ 1 _, ?_⟩
  refine ⟨rfl, rfl, rfl, by simp [World.setCell], fun k _ hne => ?_⟩
  have hk : k ≠ g := fun e => hne (by rw [e])
  rw [Below.heap_setCell _ _ _ _ hk, Below.heap_setCell _ _ _ _ hk]

set_option maxHeartbeats 400000 in
theorem clone_any (v : Value) (l : List UInt8) (w : World) (hs : Sl w v l) (hl : l.length ≤ 1000000) :
    Calls Tryd.prog 37 #[v] w fun e w' => ∃ v', e = .returned v' ∧ Own w' w.heap.size 5 v' l ∧ Below w.heap.size w w' := by
  obtain ⟨i0, hi, hz0, hz1, hz2⟩ := info_parts info_u8
  have hs' := hs
  obtain ⟨A, c, rfl, hc, ha⟩ := hs
  have heq := fun (w : World) (a : Option Addr) (n c : Nat) => Lib.run_eql_slice_nil (P := Tryd.prog) w 22 5 a n c 0 0 Tryd.underlying22
  cases A with
  | none =>
    have h0 : l = [] := by
      rcases Nat.eq_zero_or_pos l.length with h0 | h0
      · exact List.eq_nil_of_length_eq_zero h0
      · obtain ⟨b, o, h, _⟩ := ha h0
        cases h
    subst h0
    clear ha
    go_enter Tryd.func37, Tryd.ntmps37
    go_wp2
    go_ret
    exact ⟨_, rfl, Own.nil, Below.refl _ _⟩
  | some ad =>
    clear ha
    have Ho := Lib.hid (Own.of_new w w.heap.size 5 #[] [] 0 (Nat.le_refl _) rfl rfl (by simp))
    have Hl := Lib.hid (show ([] : List UInt8).length + l.length ≤ 1000000000 by simp; omega)
    go_enter Tryd.func37, Tryd.ntmps37
    go_wp2_with (at_builtin; refine wpList_append_bytes _ rfl _ _ 22 rfl w.heap.size 5 i0 Tryd.underlying22 hi hz0 hz1 hz2 _ [] rfl Ho.out _ l rfl (hs'.alloc _) Hl.out (by simp) ?_)
    intro v2 w2 ho2 hb2
    have Ho2 := Lib.hid ho2
    clear ho2
    go_wp2
    go_ret
    exact ⟨_, rfl, Ho2.out, ((Below.refl _ _).alloc (Nat.le_refl _) _).trans hb2⟩

/-- What slices.Clone gave, laid into a new reader. -/
theorem Rd.of_own {w : World} {v : Value} {l : List UInt8} {base : Nat} (h : Own w base 5 v l) : Rd (w.alloc (.cells #[v, .int .i64 1] 65)) w.heap.size l := by
  rcases h.2 with ⟨rfl, h0⟩ | ⟨g, cap, cur, rfl, _, hh, hnc, _, hs, ht⟩
  · refine ⟨none, 0, by rw [h0]; exact Blk.new _ _ _, by omega, fun hn => absurd hn (by omega)⟩
  · refine ⟨_, cap, Blk.new _ _ _, hnc, fun hn => ⟨g, 0, cur, rfl, Blk.alloc hh _, fun j hj => ?_⟩⟩
    have e : (cur.toList.take (l.length * 1))[j]? = (l.map bv)[j]? := by rw [ht]
    rw [Nat.mul_one, List.getElem?_take_of_lt hj, Array.getElem?_toList] at e
    rw [Nat.zero_add, e]
    simp [List.getElem?_eq_getElem hj, bv]

theorem read_any (v : Value) (l : List UInt8) (w : World) (hs : Sl w v l) (hl : l.length ≤ 1000000) :
    Calls Tryd.prog 28 #[v] w fun e w' => ∃ g, e = .returned (.pointer (some ⟨g, 0, none⟩)) ∧ w.heap.size ≤ g ∧ Rd w' g l ∧ Below w.heap.size w w' := by
  go_enter Tryd.func28, Tryd.ntmps28
  go_wp2_with fail
  refine (clone_any v l _ hs hl).mono ?_
  rintro e w1 ⟨v1, rfl, ho, hb⟩
  obtain ⟨A1, n1, c1, rfl⟩ := ho.shape
  have Ho := Lib.hid ho
  clear ho
  go_wp2
  go_ret
  exact ⟨_, rfl, hb.size, Rd.of_own Ho.out, hb.alloc hb.size _⟩
end Go.Proofs.YthlopecllhdmhaaDoor

namespace Go.Proofs.YthlopecllhdmhaaDoor
open Go.RowKit
set_option linter.unusedVariables false

/-- In w a part p lies at A, of which the reader in block g stands behind: its rest is l. -/
def Part (w : World) (g : Nat) (A : Option Addr) (p l : List UInt8) : Prop :=
  ∃ A' c, Blk w g 65 #[.slice A' l.length c, .int .i64 1] ∧ l.length ≤ c ∧
    (0 < p.length → ∃ b o cs, A = some ⟨b, o, none⟩ ∧ Blk w b 5 cs ∧ ∀ j (h : j < p.length), cs[o + j]? = some (.int .u8 (p[j].toNat : Int))) ∧
    (0 < l.length → ∃ b o cs, A' = some ⟨b, o, none⟩ ∧ Blk w b 5 cs ∧ (∀ j (h : j < l.length), cs[o + j]? = some (.int .u8 (l[j].toNat : Int))) ∧ (0 < p.length → ∃ o', A = some ⟨b, o', none⟩ ∧ o' + p.length ≤ o))

theorem Part.rd {w : World} {g : Nat} {A : Option Addr} {p l : List UInt8} (h : Part w g A p l) : Rd w g l := by
  obtain ⟨A', c, hg, hc, _, ha⟩ := h
  refine ⟨A', c, hg, hc, fun hn => ?_⟩
  obtain ⟨b, o, cs, e, hB, hx, _⟩ := ha hn
  exact ⟨b, o, cs, e, hB, hx⟩
theorem Part.sl {w : World} {g : Nat} {A : Option Addr} {p l : List UInt8} {n c : Nat} (h : Part w g A p l) (hn : n = p.length) (hc : n ≤ c) : Sl w (.slice A n c) p := by
  subst hn
  obtain ⟨A', c', hg, _, ha, _⟩ := h
  refine ⟨A, c, rfl, hc, fun hn => ?_⟩
  obtain ⟨b, o, cs, e, hB, hx⟩ := ha hn
  exact ⟨b, o, e, fun j hj => by rw [hB.cell]; exact hx j hj⟩

/-- What 'r.rest = r.rest[s:]' leaves: the part ahead, the rest behind. -/
theorem part_cut {w : World} {g s c c' n' : Nat} {l : List UInt8} {A A' : Option Addr} (hg : Blk w g 65 #[.slice A l.length c, .int .i64 1]) (hc : l.length ≤ c)
    (ha : 0 < l.length → ∃ b o cs, A = some ⟨b, o, none⟩ ∧ Blk w b 5 cs ∧ ∀ j (h : j < l.length), cs[o + j]? = some (.int .u8 (l[j].toNat : Int))) (hs : s ≤ l.length)
    (hA : A' = A.map (·.add s) ∨ c = s) (hc' : c' = c - s) (hn' : n' = l.length - s) : Part (w.setCell ⟨g, 0, none⟩ (.slice A' n' c')) g A (l.take s) (l.drop s) := by
  subst hc' hn'
  have hg2 : Blk (w.setCell ⟨g, 0, none⟩ (.slice A' (l.length - s) (c - s))) g 65 #[.slice A' (l.drop s).length (c - s), .int .i64 1] := by
    rw [List.length_drop]; exact hg.set_ 0 _
  refine ⟨A', c - s, hg2, by rw [List.length_drop]; omega, fun hn => ?_, fun hn => ?_⟩
  · rw [List.length_take] at hn
    obtain ⟨b, o, cs, rfl, hB, hx⟩ := ha (by omega)
    refine ⟨b, o, cs, rfl, hB.far (hB.ne_ hg (by decide)) _, fun j hj => ?_⟩
    rw [List.length_take] at hj
    rw [hx j (by omega), List.getElem_take]
  · rw [List.length_drop] at hn
    obtain ⟨b, o, cs, rfl, hB, hx⟩ := ha (by omega)
    rcases hA with rfl | h
    · refine ⟨b, o + s, cs, by simp [add_plain], hB.far (hB.ne_ hg (by decide)) _, fun j hj => ?_, fun hp => ⟨o, rfl, by rw [List.length_take]; omega⟩⟩
      rw [List.length_drop] at hj
      rw [Nat.add_assoc, hx (s + j) (by omega), List.getElem_drop]
    · omega
set_option maxHeartbeats 400000 in
/-- take, where there are enough bytes: whatever it is handed is asked about the part, the reader being behind it. -/
theorem take_ok (fid : Nat) (cap : Value) (g s : Nat) (l : List UInt8) (w : World) (Post : World → Prop) (hr : Rd w g l) (hs : s ≤ l.length) (hl : l.length ≤ 1000000)
    (eg : ∀ args w, (callFunc fid args).run Tryd.prog w = .ok (.enter fid args) w)
    (huse : ∀ (A : Option Addr) (W : World), Part W g A (l.take s) (l.drop s) → w.grownBy W (some g) → Calls Tryd.prog fid #[.slice A s s, cap] W fun e W' => e = .returned (.bool true) ∧ Post W') :
    Calls Tryd.prog 38 #[.pointer (some ⟨g, 0, none⟩), .int .i64 (s : Int), .func (.func fid) #[] #[cap]] w fun e w' => e = .returned (.tuple #[]) ∧ Post w' := by
  have hr' := hr
  obtain ⟨A, c, hg, hc, ha⟩ := hr
  have h0 : w.cell? ⟨g, 0, none⟩ = some (.slice A l.length c) := hg.cell 0
  have f0 := hg.frozen 0
  have Ha := Lib.hid ha
  have Hu := Lib.hid huse
  clear ha huse
  by_cases hcs : c = s
  · subst hcs
    go_enter Tryd.func38, Tryd.ntmps38
    go_wp2_with fail
    refine (failed_no g l _ hr').mono ?_
    rintro e w' ⟨rfl, rfl⟩
    go_wp2_with fail
    refine (Hu.out A _ (part_cut (c' := 0) (n' := 0) (A' := A) hg hc Ha.out hs (.inr rfl) (Nat.sub_self _).symm (by omega)) (grown_setCell _ _ _ _)).mono ?_
    rintro e w1 ⟨rfl, hp⟩
    have Hp := Lib.hid hp
    clear hp
    go_wp2_with fail
    go_end0
    exact ⟨rfl, Hp.out⟩
  · go_enter Tryd.func38, Tryd.ntmps38
    go_wp2_with fail
    refine (failed_no g l _ hr').mono ?_
    rintro e w' ⟨rfl, rfl⟩
    go_wp2_with fail
    refine (Hu.out A _ (part_cut hg hc Ha.out hs (.inl rfl) rfl rfl) (grown_setCell _ _ _ _)).mono ?_
    rintro e w1 ⟨rfl, hp⟩
    have Hp := Lib.hid hp
    clear hp
    go_wp2_with fail
    go_end0
    exact ⟨rfl, Hp.out⟩

set_option maxHeartbeats 400000 in
/-- take, where what it is handed says no: the reader has failed then. -/
theorem take_false (fid : Nat) (cap : Value) (g s : Nat) (l : List UInt8) (w : World) (Post : World → Prop) (hr : Rd w g l) (hs : s ≤ l.length) (hl : l.length ≤ 1000000)
    (eg : ∀ args w, (callFunc fid args).run Tryd.prog w = .ok (.enter fid args) w) (hP : ∀ W, Post W → ∃ v u, Blk W g 65 #[v, u])
    (huse : ∀ (A : Option Addr) (W : World), Part W g A (l.take s) (l.drop s) → w.grownBy W (some g) → Calls Tryd.prog fid #[.slice A s s, cap] W fun e W' => e = .returned (.bool false) ∧ Post W') :
    Calls Tryd.prog 38 #[.pointer (some ⟨g, 0, none⟩), .int .i64 (s : Int), .func (.func fid) #[] #[cap]] w fun e w' => e = .returned (.tuple #[]) ∧ ∃ W, Post W ∧ Fd w' g ∧ W.grownBy w' (some g) := by
  have hr' := hr
  obtain ⟨A, c, hg, hc, ha⟩ := hr
  have h0 : w.cell? ⟨g, 0, none⟩ = some (.slice A l.length c) := hg.cell 0
  have f0 := hg.frozen 0
  have Ha := Lib.hid ha
  have Hu := Lib.hid huse
  have HP := Lib.hid hP
  clear ha huse hP
  by_cases hcs : c = s
  · subst hcs
    go_enter Tryd.func38, Tryd.ntmps38
    go_wp2_with fail
    refine (failed_no g l _ hr').mono ?_
    rintro e w' ⟨rfl, rfl⟩
    go_wp2_with fail
    refine (Hu.out A _ (part_cut (c' := 0) (n' := 0) (A' := A) hg hc Ha.out hs (.inr rfl) (Nat.sub_self _).symm (by omega)) (grown_setCell _ _ _ _)).mono ?_
    rintro e w1 ⟨rfl, hp⟩
    obtain ⟨v, u, hb⟩ := HP.out w1 hp
    have Hp := Lib.hid hp
    clear hp
    go_wp2_with fail
    refine (fail_any g v u _ hb).mono ?_
    rintro e w2 ⟨rfl, hf, hgr⟩
    go_wp2_with fail
    go_end0
    exact ⟨rfl, w1, Hp.out, hf, hgr⟩
  · go_enter Tryd.func38, Tryd.ntmps38
    go_wp2_with fail
    refine (failed_no g l _ hr').mono ?_
    rintro e w' ⟨rfl, rfl⟩
    go_wp2_with fail
    refine (Hu.out A _ (part_cut hg hc Ha.out hs (.inl rfl) rfl rfl) (grown_setCell _ _ _ _)).mono ?_
    rintro e w1 ⟨rfl, hp⟩
    obtain ⟨v, u, hb⟩ := HP.out w1 hp
    have Hp := Lib.hid hp
    clear hp
    go_wp2_with fail
    refine (fail_any g v u _ hb).mono ?_
    rintro e w2 ⟨rfl, hf, hgr⟩
    go_wp2_with fail
    go_end0
    exact ⟨rfl, w1, Hp.out, hf, hgr⟩

/-- take, where there are too few bytes. -/
theorem take_short (f : Value) (g : Nat) (s : Int) (l : List UInt8) (w : World) (hr : Rd w g l) (hl : l.length ≤ 1000000) (hs : s < 0 ∨ (l.length : Int) < s) :
    Calls Tryd.prog 38 #[.pointer (some ⟨g, 0, none⟩), .int .i64 s, f] w fun e w' => e = .returned (.tuple #[]) ∧ Fd w' g ∧ w.grownBy w' (some g) := by
  have hr' := hr
  obtain ⟨A, c, hg, hc, ha⟩ := hr
  have h0 : w.cell? ⟨g, 0, none⟩ = some (.slice A l.length c) := hg.cell 0
  clear ha
  rcases hs with hs | hs
  · go_enter Tryd.func38, Tryd.ntmps38
    go_wp2_with fail
    refine (failed_no g l _ hr').mono ?_
    rintro e w' ⟨rfl, rfl⟩
    go_wp2_with fail
    refine (fail_any g _ _ _ hg).mono ?_
    rintro e w2 ⟨rfl, hf, hgr⟩
    go_wp2_with fail
    refine bodyPost_ret (results_none rfl _ _ _) rfl ?_
    exact ⟨rfl, hf, hgr⟩
  · go_enter Tryd.func38, Tryd.ntmps38
    go_wp2_with fail
    refine (failed_no g l _ hr').mono ?_
    rintro e w' ⟨rfl, rfl⟩
    go_wp2_with fail
    refine (fail_any g _ _ _ hg).mono ?_
    rintro e w2 ⟨rfl, hf, hgr⟩
    go_wp2_with fail
    refine bodyPost_ret (results_none rfl _ _ _) rfl ?_
    exact ⟨rfl, hf, hgr⟩
/-- take, of a reader that has failed. -/
theorem take_failed (f : Value) (g : Nat) (s : Int) (w : World) (hr : Fd w g) :
    Calls Tryd.prog 38 #[.pointer (some ⟨g, 0, none⟩), .int .i64 s, f] w fun e w' => e = .returned (.tuple #[]) ∧ w = w' := by
  go_enter Tryd.func38, Tryd.ntmps38
  go_wp2_with fail
  refine (failed_yes g _ hr).mono ?_
  rintro e w' ⟨rfl, rfl⟩
  go_wp2_with fail
  refine bodyPost_ret (results_none rfl _ _ _) rfl ?_
  exact ⟨rfl, rfl⟩
end Go.Proofs.YthlopecllhdmhaaDoor

/-
  The reader's walks once more, with a bound: its bytes lie in a block from B on. (What the reader hands out may be written by the caller: then it must be known which blocks that can touch.)
-/
import Derived.Test.YtibifnknkphanaaGreatDoorReadN
namespace Go.Proofs.YtibifnknkphanaaGreatDoor.RB
open Go.RowKit
set_option linter.unusedVariables false
set_option linter.unusedSimpArgs false

/-- Block b, from B on, is just these cells of bytes. -/
structure MBlk (B : Nat) (w : World) (b : Nat) (cs : Array Value) : Prop where
  ge : B ≤ b
  blk : Blk w b 5 cs
section
variable {B b : Nat} {w w' : World} {cs : Array Value}
theorem MBlk.lt (h : MBlk B w b cs) : b < w.heap.size := h.blk.lt
theorem MBlk.cell (h : MBlk B w b cs) (i : Nat) : w.cell? ⟨b, i, none⟩ = cs[i]? := h.blk.cell i
theorem MBlk.alloc (h : MBlk B w b cs) (o : Obj) : MBlk B (w.alloc o) b cs := ⟨h.ge, h.blk.alloc o⟩
theorem MBlk.far (h : MBlk B w b cs) {p : Addr} (hp : b ≠ p.block) (u : Value) : MBlk B (w.setCell p u) b cs := ⟨h.ge, h.blk.far hp u⟩
theorem MBlk.below {K : Nat} (h : MBlk B w b cs) (hb : Below K w w') (hg : b < K) : MBlk B w' b cs := ⟨h.ge, h.blk.below hb hg⟩
theorem MBlk.grown {row : Option Nat} (h : MBlk B w b cs) (hb : w.grownBy w' row) (hg : some b ≠ row) : MBlk B w' b cs := ⟨h.ge, h.blk.grown hb hg⟩
theorem MBlk.ne_ {g' : Nat} {t' : TypeId} {cs' : Array Value} (h : MBlk B w b cs) (h' : Blk w g' t' cs') (hne : 5 ≠ t') : b ≠ g' := h.blk.ne_ h' hne
end
variable {B : Nat}

/-- The reader in block g stands at the front of the bytes l, and has not failed. -/
def Rd (B : Nat) (w : World) (g : Nat) (l : List UInt8) : Prop :=
  ∃ A c, Blk w g 169 #[.slice A l.length c, .int .i64 1] ∧ l.length ≤ c ∧
    (0 < l.length → ∃ b o cs, A = some ⟨b, o, none⟩ ∧ MBlk B w b cs ∧ ∀ j (h : j < l.length), cs[o + j]? = some (.int .u8 (l[j].toNat : Int)))
theorem Rd.below {w w' : World} {g : Nat} {l : List UInt8} (h : Rd B w g l) (hb : Below w.heap.size w w') : Rd B w' g l := by
  obtain ⟨A, c, hg, hc, ha⟩ := h
  refine ⟨A, c, hg.below hb hg.lt, hc, fun hn => ?_⟩
  obtain ⟨b, o, cs, rfl, hB, hx⟩ := ha hn
  exact ⟨b, o, cs, rfl, hB.below hb hB.lt, hx⟩
theorem Rd.sl {w : World} {g : Nat} {l : List UInt8} {A : Option Addr} {n c : Nat} (h : Rd B w g l) (hg : w.cell? ⟨g, 0, none⟩ = some (.slice A n c)) : Sl w (.slice A n c) l := by
  obtain ⟨A', c', hg', hc, ha⟩ := h
  have e : w.cell? ⟨g, 0, none⟩ = some (.slice A' l.length c') := hg'.cell 0
  rw [e] at hg
  injection hg with hg
  injection hg with h1 h2 h3
  subst h1 h2 h3
  refine ⟨A', c', rfl, hc, fun hn => ?_⟩
  obtain ⟨b, o, cs, rfl, hB, hx⟩ := ha hn
  exact ⟨b, o, rfl, fun j hj => by rw [hB.cell]; exact hx j hj⟩
theorem failed_no (g : Nat) (l : List UInt8) (w : World) (h : Rd B w g l) :
    Calls Tryz.prog 99 #[.pointer (some ⟨g, 0, none⟩)] w fun e w' => e = .returned (.bool false) ∧ w = w' := by
  obtain ⟨A, c, hg, hc, ha⟩ := h
  clear ha
  have h1 : w.cell? ⟨g, 1, none⟩ = some (.int .i64 1) := hg.cell 1
  go_enter Tryz.func99, Tryz.ntmps99
  go_wp2
  go_ret
  exact ⟨rfl, rfl⟩
theorem left_no (g : Nat) (l : List UInt8) (w : World) (h : Rd B w g l) :
    Calls Tryz.prog 100 #[.pointer (some ⟨g, 0, none⟩)] w fun e w' => e = .returned (.int .i64 (l.length : Int)) ∧ w = w' := by
  have h' := h
  obtain ⟨A, c, hg, hc, ha⟩ := h
  clear ha
  have h0 : w.cell? ⟨g, 0, none⟩ = some (.slice A l.length c) := hg.cell 0
  go_enter Tryz.func100, Tryz.ntmps100
  go_wp2_with fail
  refine (failed_no g l _ h').mono ?_
  rintro e w' ⟨rfl, rfl⟩
  go_wp2
  go_ret
  exact ⟨rfl, rfl⟩
/-- What slices.Clone gave, laid into a new reader. -/
theorem Rd.of_own {w : World} {v : Value} {l : List UInt8} (h : Own w B 5 v l) : Rd B (w.alloc (.cells #[v, .int .i64 1] 169)) w.heap.size l := by
  rcases h.2 with ⟨rfl, h0⟩ | ⟨g, cap, cur, rfl, hge, hh, hnc, _, hs, ht⟩
  · refine ⟨none, 0, by rw [h0]; exact Blk.new _ _ _, by omega, fun hn => absurd hn (by omega)⟩
  · refine ⟨_, cap, Blk.new _ _ _, hnc, fun hn => ⟨g, 0, cur, rfl, ⟨hge, Blk.alloc hh _⟩, fun j hj => ?_⟩⟩
    have e : (cur.toList.take (l.length * 1))[j]? = (l.map bv)[j]? := by rw [ht]
    rw [Nat.mul_one, List.getElem?_take_of_lt hj, Array.getElem?_toList] at e
    rw [Nat.zero_add, e]
    simp [List.getElem?_eq_getElem hj, bv]
theorem read_any (v : Value) (l : List UInt8) (w : World) (hs : Sl w v l) (hl : l.length ≤ 1000000) :
    Calls Tryz.prog 95 #[v] w fun e w' => ∃ g, e = .returned (.pointer (some ⟨g, 0, none⟩)) ∧ w.heap.size ≤ g ∧ Rd w.heap.size w' g l ∧ Below w.heap.size w w' := by
  go_enter Tryz.func95, Tryz.ntmps95
  go_wp2_with fail
  refine (clone_any v l _ hs hl).mono ?_
  rintro e w1 ⟨v1, rfl, ho, hb⟩
  obtain ⟨A1, n1, c1, rfl⟩ := ho.shape
  have Ho := Lib.hid ho
  clear ho
  go_wp2
  go_ret
  exact ⟨_, rfl, hb.size, Rd.of_own Ho.out, hb.alloc hb.size _⟩
/-- In w a part p lies at A, of which the reader in block g stands behind: its rest is l. -/
def Part (B : Nat) (w : World) (g : Nat) (A : Option Addr) (p l : List UInt8) : Prop :=
  ∃ A' c, Blk w g 169 #[.slice A' l.length c, .int .i64 1] ∧ l.length ≤ c ∧
    (0 < p.length → ∃ b o cs, A = some ⟨b, o, none⟩ ∧ MBlk B w b cs ∧ ∀ j (h : j < p.length), cs[o + j]? = some (.int .u8 (p[j].toNat : Int))) ∧
    (0 < l.length → ∃ b o cs, A' = some ⟨b, o, none⟩ ∧ MBlk B w b cs ∧ (∀ j (h : j < l.length), cs[o + j]? = some (.int .u8 (l[j].toNat : Int))) ∧ (0 < p.length → ∃ o', A = some ⟨b, o', none⟩ ∧ o' + p.length ≤ o))
theorem Part.rd {w : World} {g : Nat} {A : Option Addr} {p l : List UInt8} (h : Part B w g A p l) : Rd B w g l := by
  obtain ⟨A', c, hg, hc, _, ha⟩ := h
  refine ⟨A', c, hg, hc, fun hn => ?_⟩
  obtain ⟨b, o, cs, e, hB, hx, _⟩ := ha hn
  exact ⟨b, o, cs, e, hB, hx⟩
theorem Part.sl {w : World} {g : Nat} {A : Option Addr} {p l : List UInt8} {n c : Nat} (h : Part B w g A p l) (hn : n = p.length) (hc : n ≤ c) : Sl w (.slice A n c) p := by
  subst hn
  obtain ⟨A', c', hg, _, ha, _⟩ := h
  refine ⟨A, c, rfl, hc, fun hn => ?_⟩
  obtain ⟨b, o, cs, e, hB, hx⟩ := ha hn
  exact ⟨b, o, e, fun j hj => by rw [hB.cell]; exact hx j hj⟩
/-- What 'r.rest = r.rest[s:]' leaves: the part ahead, the rest behind. -/
theorem part_cut {w : World} {g s c c' n' : Nat} {l : List UInt8} {A A' : Option Addr} (hg : Blk w g 169 #[.slice A l.length c, .int .i64 1]) (hc : l.length ≤ c)
    (ha : 0 < l.length → ∃ b o cs, A = some ⟨b, o, none⟩ ∧ MBlk B w b cs ∧ ∀ j (h : j < l.length), cs[o + j]? = some (.int .u8 (l[j].toNat : Int))) (hs : s ≤ l.length)
    (hA : A' = A.map (·.add s) ∨ c = s) (hc' : c' = c - s) (hn' : n' = l.length - s) : Part B (w.setCell ⟨g, 0, none⟩ (.slice A' n' c')) g A (l.take s) (l.drop s) := by
  subst hc' hn'
  have hg2 : Blk (w.setCell ⟨g, 0, none⟩ (.slice A' (l.length - s) (c - s))) g 169 #[.slice A' (l.drop s).length (c - s), .int .i64 1] := by
    rw [List.length_drop]; exact hg.set_ 0 _
  refine ⟨A', c - s, hg2, by rw [List.length_drop]; omega, fun hn => ?_, fun hn => ?_⟩
  · rw [List.length_take] at hn
    obtain ⟨b, o, cs, rfl, hB, hx⟩ := ha (by omega)
    refine ⟨b, o, cs, rfl, hB.far (hB.ne_ hg (by decide)) _, fun j hj => ?_⟩
    rw [List.length_take] at hj
    rw [hx j (by omega), List.getElem_take]
  · rw [List.length_drop] at hn
    obtain ⟨b, o, cs, rfl, hB, hx⟩ := ha (by omega)
    rcases hA with rfl | h
    · refine ⟨b, o + s, cs, by simp [add_plain], hB.far (hB.ne_ hg (by decide)) _, fun j hj => ?_, fun hp => ⟨o, rfl, by rw [List.length_take]; omega⟩⟩
      rw [List.length_drop] at hj
      rw [Nat.add_assoc, hx (s + j) (by omega), List.getElem_drop]
    · omega
set_option maxHeartbeats 400000 in
/-- take, where there are enough bytes: whatever it is handed is asked about the part, the reader being behind it. -/
theorem take_ok (fid : Nat) (cap : Value) (g s : Nat) (l : List UInt8) (w : World) (Post : World → Prop) (hr : Rd B w g l) (hs : s ≤ l.length) (hl : l.length ≤ 1000000)
    (eg : ∀ args w, (callFunc fid args).run Tryz.prog w = .ok (.enter fid args) w)
    (huse : ∀ (A : Option Addr) (W : World), Part B W g A (l.take s) (l.drop s) → w.grownBy W (some g) → Calls Tryz.prog fid #[.slice A s s, cap] W fun e W' => e = .returned (.bool true) ∧ Post W') :
    Calls Tryz.prog 125 #[.pointer (some ⟨g, 0, none⟩), .int .i64 (s : Int), .func (.func fid) #[] #[cap]] w fun e w' => e = .returned (.tuple #[]) ∧ Post w' := by
  have hr' := hr
  obtain ⟨A, c, hg, hc, ha⟩ := hr
  have h0 : w.cell? ⟨g, 0, none⟩ = some (.slice A l.length c) := hg.cell 0
  have f0 := hg.frozen 0
  have Ha := Lib.hid ha
  have Hu := Lib.hid huse
  clear ha huse
  by_cases hcs : c = s
  · subst hcs
    go_enter Tryz.func125, Tryz.ntmps125
    go_wp2_with fail
    refine (failed_no g l _ hr').mono ?_
    rintro e w' ⟨rfl, rfl⟩
    go_wp2_with fail
    refine (Hu.out A _ (part_cut (c' := 0) (n' := 0) (A' := A) hg hc Ha.out hs (.inr rfl) (Nat.sub_self _).symm (by omega)) (grown_setCell _ _ _ _)).mono ?_
    rintro e w1 ⟨rfl, hp⟩
    have Hp := Lib.hid hp
    clear hp
    go_wp2_with fail
    go_end0
    exact ⟨rfl, Hp.out⟩
  · go_enter Tryz.func125, Tryz.ntmps125
    go_wp2_with fail
    refine (failed_no g l _ hr').mono ?_
    rintro e w' ⟨rfl, rfl⟩
    go_wp2_with fail
    refine (Hu.out A _ (part_cut hg hc Ha.out hs (.inl rfl) rfl rfl) (grown_setCell _ _ _ _)).mono ?_
    rintro e w1 ⟨rfl, hp⟩
    have Hp := Lib.hid hp
    clear hp
    go_wp2_with fail
    go_end0
    exact ⟨rfl, Hp.out⟩
set_option maxHeartbeats 400000 in
/-- take, where what it is handed says no: the reader has failed then. -/
theorem take_false (fid : Nat) (cap : Value) (g s : Nat) (l : List UInt8) (w : World) (Post : World → Prop) (hr : Rd B w g l) (hs : s ≤ l.length) (hl : l.length ≤ 1000000)
    (eg : ∀ args w, (callFunc fid args).run Tryz.prog w = .ok (.enter fid args) w) (hP : ∀ W, Post W → ∃ v u, Blk W g 169 #[v, u])
    (huse : ∀ (A : Option Addr) (W : World), Part B W g A (l.take s) (l.drop s) → w.grownBy W (some g) → Calls Tryz.prog fid #[.slice A s s, cap] W fun e W' => e = .returned (.bool false) ∧ Post W') :
    Calls Tryz.prog 125 #[.pointer (some ⟨g, 0, none⟩), .int .i64 (s : Int), .func (.func fid) #[] #[cap]] w fun e w' => e = .returned (.tuple #[]) ∧ ∃ W, Post W ∧ Fd w' g ∧ W.grownBy w' (some g) := by
  have hr' := hr
  obtain ⟨A, c, hg, hc, ha⟩ := hr
  have h0 : w.cell? ⟨g, 0, none⟩ = some (.slice A l.length c) := hg.cell 0
  have f0 := hg.frozen 0
  have Ha := Lib.hid ha
  have Hu := Lib.hid huse
  have HP := Lib.hid hP
  clear ha huse hP
  by_cases hcs : c = s
  · subst hcs
    go_enter Tryz.func125, Tryz.ntmps125
    go_wp2_with fail
    refine (failed_no g l _ hr').mono ?_
    rintro e w' ⟨rfl, rfl⟩
    go_wp2_with fail
    refine (Hu.out A _ (part_cut (c' := 0) (n' := 0) (A' := A) hg hc Ha.out hs (.inr rfl) (Nat.sub_self _).symm (by omega)) (grown_setCell _ _ _ _)).mono ?_
    rintro e w1 ⟨rfl, hp⟩
    obtain ⟨v, u, hb⟩ := HP.out w1 hp
    have Hp := Lib.hid hp
    clear hp
    go_wp2_with fail
    refine (fail_any g v u _ hb).mono ?_
    rintro e w2 ⟨rfl, hf, hgr⟩
    go_wp2_with fail
    go_end0
    exact ⟨rfl, w1, Hp.out, hf, hgr⟩
  · go_enter Tryz.func125, Tryz.ntmps125
    go_wp2_with fail
    refine (failed_no g l _ hr').mono ?_
    rintro e w' ⟨rfl, rfl⟩
    go_wp2_with fail
    refine (Hu.out A _ (part_cut hg hc Ha.out hs (.inl rfl) rfl rfl) (grown_setCell _ _ _ _)).mono ?_
    rintro e w1 ⟨rfl, hp⟩
    obtain ⟨v, u, hb⟩ := HP.out w1 hp
    have Hp := Lib.hid hp
    clear hp
    go_wp2_with fail
    refine (fail_any g v u _ hb).mono ?_
    rintro e w2 ⟨rfl, hf, hgr⟩
    go_wp2_with fail
    go_end0
    exact ⟨rfl, w1, Hp.out, hf, hgr⟩
/-- take, where there are too few bytes. -/
theorem take_short (f : Value) (g : Nat) (s : Int) (l : List UInt8) (w : World) (hr : Rd B w g l) (hl : l.length ≤ 1000000) (hs : s < 0 ∨ (l.length : Int) < s) :
    Calls Tryz.prog 125 #[.pointer (some ⟨g, 0, none⟩), .int .i64 s, f] w fun e w' => e = .returned (.tuple #[]) ∧ Fd w' g ∧ w.grownBy w' (some g) := by
  have hr' := hr
  obtain ⟨A, c, hg, hc, ha⟩ := hr
  have h0 : w.cell? ⟨g, 0, none⟩ = some (.slice A l.length c) := hg.cell 0
  clear ha
  rcases hs with hs | hs
  · go_enter Tryz.func125, Tryz.ntmps125
    go_wp2_with fail
    refine (failed_no g l _ hr').mono ?_
    rintro e w' ⟨rfl, rfl⟩
    go_wp2_with fail
    refine (fail_any g _ _ _ hg).mono ?_
    rintro e w2 ⟨rfl, hf, hgr⟩
    go_wp2_with fail
    refine bodyPost_ret (results_none rfl _ _ _) rfl ?_
    exact ⟨rfl, hf, hgr⟩
  · go_enter Tryz.func125, Tryz.ntmps125
    go_wp2_with fail
    refine (failed_no g l _ hr').mono ?_
    rintro e w' ⟨rfl, rfl⟩
    go_wp2_with fail
    refine (fail_any g _ _ _ hg).mono ?_
    rintro e w2 ⟨rfl, hf, hgr⟩
    go_wp2_with fail
    refine bodyPost_ret (results_none rfl _ _ _) rfl ?_
    exact ⟨rfl, hf, hgr⟩
/-- A store into a block of another element type leaves the part and the reader. -/
theorem Part.far {w : World} {g cb i : Nat} {t : TypeId} {cs : Array Value} {A : Option Addr} {p l : List UInt8} (h : Part B w g A p l) (hb : Blk w cb t cs) (h1 : t ≠ 169) (h2 : t ≠ 5) (u : Value) : Part B (w.setCell ⟨cb, i, none⟩ u) g A p l := by
  obtain ⟨A', c, hg, hc, hp, hl⟩ := h
  refine ⟨A', c, hg.far (hg.ne_ hb (Ne.symm h1)) u, hc, fun hn => ?_, fun hn => ?_⟩
  · obtain ⟨b, o, cs', e, hB, hx⟩ := hp hn
    exact ⟨b, o, cs', e, hB.far (hB.ne_ hb (Ne.symm h2)) u, hx⟩
  · obtain ⟨b, o, cs', e, hB, hx⟩ := hl hn
    exact ⟨b, o, cs', e, hB.far (hB.ne_ hb (Ne.symm h2)) u, hx⟩
theorem Rd.part {w : World} {g : Nat} {l : List UInt8} (h : Rd B w g l) : Part B w g none [] l := by
  obtain ⟨A, c, hg, hc, ha⟩ := h
  refine ⟨A, c, hg, hc, fun hn => absurd hn (by simp), fun hn => ?_⟩
  obtain ⟨b, o, cs, e, hB, hx⟩ := ha hn
  exact ⟨b, o, cs, e, hB, hx, fun hn => absurd hn (by simp)⟩
theorem Rd.far {w : World} {g cb i : Nat} {t : TypeId} {cs : Array Value} {l : List UInt8} (h : Rd B w g l) (hb : Blk w cb t cs) (h1 : t ≠ 169) (h2 : t ≠ 5) (u : Value) : Rd B (w.setCell ⟨cb, i, none⟩ u) g l := (h.part.far hb h1 h2 u).rd
theorem Rd.alloc {w : World} {g : Nat} {l : List UInt8} (h : Rd B w g l) (o : Obj) : Rd B (w.alloc o) g l := h.below ((Below.refl _ _).alloc (Nat.le_refl _) o)
theorem Rd.lt {w : World} {g : Nat} {l : List UInt8} (h : Rd B w g l) : g < w.heap.size := by
  obtain ⟨A, c, hg, _⟩ := h
  exact hg.lt
/-- What only turns the reader's own block leaves the part. -/
theorem Part.sl_grown {w w' : World} {g : Nat} {A : Option Addr} {p l : List UInt8} {n c : Nat} (h : Part B w g A p l) (hgr : w.grownBy w' (some g)) (hn : n = p.length) (hc : n ≤ c) : Sl w' (.slice A n c) p := by
  subst hn
  obtain ⟨A', c', hg, _, ha, _⟩ := h
  refine ⟨A, c, rfl, hc, fun hn => ?_⟩
  obtain ⟨b, o, cs, e, hB, hx⟩ := ha hn
  have hB' := hB.grown hgr (fun e => hB.ne_ hg (by decide) (by injection e))
  exact ⟨b, o, e, fun j hj => by rw [hB'.cell]; exact hx j hj⟩
/-- Number, of 1 to 8 bytes that are there. -/
theorem number_ok (g s : Nat) (l : List UInt8) (w : World) (hr : Rd B w g l) (h1 : 1 ≤ s) (h8 : s ≤ 8) (hs : s ≤ l.length) (hl : l.length ≤ 1000000) :
    Calls Tryz.prog 97 #[.pointer (some ⟨g, 0, none⟩), .int .i64 (s : Int)] w fun e w' =>
      e = .returned (.int .u64 (beN (l.take s) : Int)) ∧ Rd B w' g (l.drop s) ∧ w.grownBy w' (some g) := by
  have hlt := hr.lt
  have hmf : ∀ (fn : Fn) (first cap : Array Value) (w : World), (Instr.makeFunc fn first cap).run Tryz.prog w = .ok (.func fn first cap) w := fun _ _ _ _ => rfl
  go_enter Tryz.func97, Tryz.ntmps97
  go_wp2_with fail
  refine (take_ok _ _ g s l _ (fun W => Rd B W g (l.drop s) ∧ W.cell? ⟨w.heap.size, 0, none⟩ = some (.int .u64 (beN (l.take s) : Int)) ∧ w.grownBy W (some g)) (hr.alloc _) hs hl enter_number ?_).mono ?_
  · intro A W hp hgr
    have hb : Blk W w.heap.size 86 #[.int .u64 0] := (Blk.new w _ _).grown hgr (by simp; omega)
    refine (numberUse_yes A s s w.heap.size (l.take s) _ W (hp.sl (by rw [List.length_take]; omega) (Nat.le_refl _)) (by rw [List.length_take]; omega) (by rw [List.length_take]; omega) hb).mono ?_
    rintro e W' ⟨rfl, rfl⟩
    exact ⟨rfl, (hp.far hb (by decide) (by decide) _).rd, (hb.set_ 0 _).cell 0, grown_new (grown_of_alloc hgr) (Nat.le_refl _)⟩
  rintro e w' ⟨rfl, hR, hcell, hgr⟩
  go_wp2
  go_ret
  exact ⟨rfl, hR, hgr⟩
/-- Number, of a size that may not be. -/
theorem number_size (g s : Nat) (l : List UInt8) (w : World) (hr : Rd B w g l) (h1 : s < 1 ∨ 8 < s) (hs : s ≤ l.length) (hl : l.length ≤ 1000000) :
    Calls Tryz.prog 97 #[.pointer (some ⟨g, 0, none⟩), .int .i64 (s : Int)] w fun e w' =>
      e = .returned (.int .u64 0) ∧ Fd w' g ∧ w.grownBy w' (some g) := by
  have hlt := hr.lt
  have hmf : ∀ (fn : Fn) (first cap : Array Value) (w : World), (Instr.makeFunc fn first cap).run Tryz.prog w = .ok (.func fn first cap) w := fun _ _ _ _ => rfl
  go_enter Tryz.func97, Tryz.ntmps97
  go_wp2_with fail
  refine (take_false _ _ g s l _ (fun W => Rd B W g (l.drop s) ∧ Blk W w.heap.size 86 #[.int .u64 0] ∧ w.grownBy W (some g)) (hr.alloc _) hs hl enter_number ?_ ?_).mono ?_
  · rintro W ⟨⟨A, c, hb, _⟩, _⟩
    exact ⟨_, _, hb⟩
  · intro A W hp hgr
    have hb : Blk W w.heap.size 86 #[.int .u64 0] := (Blk.new w _ _).grown hgr (by simp; omega)
    refine (numberUse_no A s s w.heap.size (l.take s) _ W (hp.sl (by rw [List.length_take]; omega) (Nat.le_refl _)) (by rw [List.length_take]; omega) hb).mono ?_
    rintro e W' ⟨rfl, rfl⟩
    exact ⟨rfl, (hp.far hb (by decide) (by decide) _).rd, hb.set_ 0 _, grown_new (grown_of_alloc hgr) (Nat.le_refl _)⟩
  rintro e w' ⟨rfl, W, ⟨_, hB, hg1⟩, hf, hg2⟩
  have hcell : w'.cell? ⟨w.heap.size, 0, none⟩ = some (.int .u64 0) := (hB.grown hg2 (by simp; omega)).cell 0
  go_wp2
  go_ret
  exact ⟨rfl, hf, hg1.trans hg2⟩
/-- Number, of more bytes than there are, or fewer than none. -/
theorem number_short (g : Nat) (s : Int) (l : List UInt8) (w : World) (hr : Rd B w g l) (hs : s < 0 ∨ (l.length : Int) < s) (hl : l.length ≤ 1000000) :
    Calls Tryz.prog 97 #[.pointer (some ⟨g, 0, none⟩), .int .i64 s] w fun e w' =>
      e = .returned (.int .u64 0) ∧ Fd w' g ∧ w.grownBy w' (some g) := by
  have hlt := hr.lt
  have hmf : ∀ (fn : Fn) (first cap : Array Value) (w : World), (Instr.makeFunc fn first cap).run Tryz.prog w = .ok (.func fn first cap) w := fun _ _ _ _ => rfl
  have Hs := Lib.hid hs
  clear hs
  go_enter Tryz.func97, Tryz.ntmps97
  go_wp2_with fail
  refine (take_short _ g s l _ (hr.alloc _) hl Hs.out).mono ?_
  rintro e w' ⟨rfl, hf, hgr⟩
  have hcell : w'.cell? ⟨w.heap.size, 0, none⟩ = some (.int .u64 0) := ((Blk.new w _ _).grown hgr (by simp; omega)).cell 0
  go_wp2
  go_ret
  exact ⟨rfl, hf, grown_of_alloc hgr⟩
/-- Bytes, of so many that are there. -/
theorem bytes_ok (g s : Nat) (l : List UInt8) (w : World) (hr : Rd B w g l) (hs : s ≤ l.length) (hl : l.length ≤ 1000000) :
    Calls Tryz.prog 96 #[.pointer (some ⟨g, 0, none⟩), .int .i64 (s : Int)] w fun e w' =>
      ∃ A, e = .returned (.slice A s s) ∧ Part B w' g A (l.take s) (l.drop s) ∧ w.grownBy w' (some g) := by
  have hlt := hr.lt
  have hmf : ∀ (fn : Fn) (first cap : Array Value) (w : World), (Instr.makeFunc fn first cap).run Tryz.prog w = .ok (.func fn first cap) w := fun _ _ _ _ => rfl
  go_enter Tryz.func96, Tryz.ntmps96
  go_wp2_with fail
  refine (take_ok _ _ g s l _ (fun W => ∃ A, Part B W g A (l.take s) (l.drop s) ∧ W.cell? ⟨w.heap.size, 0, none⟩ = some (.slice A s s) ∧ w.grownBy W (some g)) (hr.alloc _) hs hl enter_bytes ?_).mono ?_
  · intro A W hp hgr
    have hb : Blk W w.heap.size 22 #[.slice none 0 0] := (Blk.new w _ _).grown hgr (by simp; omega)
    refine (bytesUse_any A s s w.heap.size _ W hb).mono ?_
    rintro e W' ⟨rfl, rfl⟩
    exact ⟨rfl, A, hp.far hb (by decide) (by decide) _, (hb.set_ 0 _).cell 0, grown_new (grown_of_alloc hgr) (Nat.le_refl _)⟩
  rintro e w' ⟨rfl, A, hR, hcell, hgr⟩
  go_wp2
  go_ret
  exact ⟨A, rfl, hR, hgr⟩
theorem bytes_short (g : Nat) (s : Int) (l : List UInt8) (w : World) (hr : Rd B w g l) (hs : s < 0 ∨ (l.length : Int) < s) (hl : l.length ≤ 1000000) :
    Calls Tryz.prog 96 #[.pointer (some ⟨g, 0, none⟩), .int .i64 s] w fun e w' =>
      e = .returned (.slice none 0 0) ∧ Fd w' g ∧ w.grownBy w' (some g) := by
  have hlt := hr.lt
  have hmf : ∀ (fn : Fn) (first cap : Array Value) (w : World), (Instr.makeFunc fn first cap).run Tryz.prog w = .ok (.func fn first cap) w := fun _ _ _ _ => rfl
  have Hs := Lib.hid hs
  clear hs
  go_enter Tryz.func96, Tryz.ntmps96
  go_wp2_with fail
  refine (take_short _ g s l _ (hr.alloc _) hl Hs.out).mono ?_
  rintro e w' ⟨rfl, hf, hgr⟩
  have hcell : w'.cell? ⟨w.heap.size, 0, none⟩ = some (.slice none 0 0) := ((Blk.new w _ _).grown hgr (by simp; omega)).cell 0
  go_wp2
  go_ret
  exact ⟨rfl, hf, grown_of_alloc hgr⟩
end Go.Proofs.YtibifnknkphanaaGreatDoor.RB

/-
  The walks of the reader's take, and of what it is handed: the readings of numbers and bytes.
-/
import Derived.Test.YteneicngmglgbaaRd
namespace Go.Proofs.Yteneicngmglgbaa
open Go.RowKit
set_option linter.unusedVariables false

/-- In w a part p lies at A, of which the reader in block g stands behind: its rest is l. -/
def Part (w : World) (g : Nat) (A : Option Addr) (p l : List UInt8) : Prop :=
  ∃ A' c, Blk w g 78 #[.slice A' l.length c, .int .i64 1] ∧ l.length ≤ c ∧
    (0 < p.length → ∃ b o cs, A = some ⟨b, o, none⟩ ∧ Blk w b 5 cs ∧ ∀ j (h : j < p.length), cs[o + j]? = some (.int .u8 (p[j].toNat : Int))) ∧
    (0 < l.length → ∃ b o cs, A' = some ⟨b, o, none⟩ ∧ Blk w b 5 cs ∧ (∀ j (h : j < l.length), cs[o + j]? = some (.int .u8 (l[j].toNat : Int))) ∧ (0 < p.length → ∃ o', A = some ⟨b, o', none⟩ ∧ o' + p.length ≤ o))

theorem Part.rd {w : World} {g : Nat} {A : Option Addr} {p l : List UInt8} (h : Part w g A p l) : Rd w g l := by
  obtain ⟨A', c, hg, hc, _, ha⟩ := h
  refine ⟨A', c, hg, hc, fun hn => ?_⟩
  obtain ⟨b, o, cs, e, hB, hx, _⟩ := ha hn
  exact ⟨b, o, cs, e, hB, hx⟩
theorem Part.sl {w : World} {g : Nat} {A : Option Addr} {p l : List UInt8} {n c : Nat} (h : Part w g A p l) (hn : n = p.length) (hc : n ≤ c) : Sl w (.slice A n c) p := by
  subst hn
  obtain ⟨A', c', hg, _, ha, _⟩ := h
  refine ⟨A, c, rfl, hc, fun hn => ?_⟩
  obtain ⟨b, o, cs, e, hB, hx⟩ := ha hn
  exact ⟨b, o, e, fun j hj => by rw [hB.cell]; exact hx j hj⟩

theorem bytesUse_any (A : Option Addr) (n c cb : Nat) (x : Value) (w : World) (hb : Blk w cb 23 #[x]) :
    Calls Try.prog 54 #[.slice A n c, .pointer (some ⟨cb, 0, none⟩)] w fun e w' => e = .returned (.bool true) ∧ w' = w.setCell ⟨cb, 0, none⟩ (.slice A n c) := by
  have h0 : w.cell? ⟨cb, 0, none⟩ = some x := hb.cell 0
  have f0 := hb.frozen 0
  go_enter Try.func54, Try.ntmps54
  go_wp2
  go_ret
  exact ⟨rfl, rfl⟩

/-- What 'r.rest = r.rest[s:]' leaves: the part ahead, the rest behind. -/
theorem part_cut {w : World} {g s c c' n' : Nat} {l : List UInt8} {A A' : Option Addr} (hg : Blk w g 78 #[.slice A l.length c, .int .i64 1]) (hc : l.length ≤ c)
    (ha : 0 < l.length → ∃ b o cs, A = some ⟨b, o, none⟩ ∧ Blk w b 5 cs ∧ ∀ j (h : j < l.length), cs[o + j]? = some (.int .u8 (l[j].toNat : Int))) (hs : s ≤ l.length)
    (hA : A' = A.map (·.add s) ∨ c = s) (hc' : c' = c - s) (hn' : n' = l.length - s) : Part (w.setCell ⟨g, 0, none⟩ (.slice A' n' c')) g A (l.take s) (l.drop s) := by
  subst hc' hn'
  have hg2 : Blk (w.setCell ⟨g, 0, none⟩ (.slice A' (l.length - s) (c - s))) g 78 #[.slice A' (l.drop s).length (c - s), .int .i64 1] := by
    rw [List.length_drop]; exact hg.set_ 0 _
  refine ⟨A', c - s, hg2, by rw [List.length_drop]; omega, fun hn => ?_, fun hn => ?_⟩
  · rw [List.length_take] at hn
    obtain ⟨b, o, cs, rfl, hB, hx⟩ := ha (by omega)
    refine ⟨b, o, cs, rfl, hB.far (hB.ne_ hg (by decide)) _, fun j hj => ?_⟩
    rw [List.length_take] at hj
    rw [hx j (by omega), List.getElem_take]
  · rw [List.length_drop] at hn
    obtain ⟨b, o, cs, rfl, hB, hx⟩ := ha (by omega)
    rcases hA with rfl | h
    · refine ⟨b, o + s, cs, by simp [add_plain], hB.far (hB.ne_ hg (by decide)) _, fun j hj => ?_, fun hp => ⟨o, rfl, by rw [List.length_take]; omega⟩⟩
      rw [List.length_drop] at hj
      rw [Nat.add_assoc, hx (s + j) (by omega), List.getElem_drop]
    · omega
theorem grown_setCell (w : World) (g i : Nat) (v : Value) : w.grownBy (w.setCell ⟨g, i, none⟩ v) (some g) :=
  ⟨rfl, rfl, rfl, by simp [World.setCell], fun k _ hne => Below.heap_setCell _ _ _ _ (fun e => hne (by rw [e]))⟩

set_option maxHeartbeats 400000 in
/-- take, where there are enough bytes: whatever it is handed is asked about the part, the reader being behind it. -/
theorem take_ok (fid : Nat) (cap : Value) (g s : Nat) (l : List UInt8) (w : World) (Post : World → Prop) (hr : Rd w g l) (hs : s ≤ l.length) (hl : l.length ≤ 1000000)
    (eg : ∀ args w, (callFunc fid args).run Try.prog w = .ok (.enter fid args) w)
    (huse : ∀ (A : Option Addr) (W : World), Part W g A (l.take s) (l.drop s) → w.grownBy W (some g) → Calls Try.prog fid #[.slice A s s, cap] W fun e W' => e = .returned (.bool true) ∧ Post W') :
    Calls Try.prog 50 #[.pointer (some ⟨g, 0, none⟩), .int .i64 (s : Int), .func (.func fid) #[] #[cap]] w fun e w' => e = .returned (.tuple #[]) ∧ Post w' := by
  have hr' := hr
  obtain ⟨A, c, hg, hc, ha⟩ := hr
  have h0 : w.cell? ⟨g, 0, none⟩ = some (.slice A l.length c) := hg.cell 0
  have f0 := hg.frozen 0
  have Ha := Lib.hid ha
  have Hu := Lib.hid huse
  clear ha huse
  by_cases hcs : c = s
  · subst hcs
    go_enter Try.func50, Try.ntmps50
    go_wp2_with fail
    refine (failed_no g l _ hr').mono ?_
    rintro e w' ⟨rfl, rfl⟩
    go_wp2_with fail
    refine (Hu.out A _ (part_cut (c' := 0) (n' := 0) (A' := A) hg hc Ha.out hs (.inr rfl) (Nat.sub_self _).symm (by omega)) (grown_setCell _ _ _ _)).mono ?_
    rintro e w1 ⟨rfl, hp⟩
    have Hp := Lib.hid hp
    clear hp
    go_wp2_with fail
    go_end0
    exact ⟨rfl, Hp.out⟩
  · go_enter Try.func50, Try.ntmps50
    go_wp2_with fail
    refine (failed_no g l _ hr').mono ?_
    rintro e w' ⟨rfl, rfl⟩
    go_wp2_with fail
    refine (Hu.out A _ (part_cut hg hc Ha.out hs (.inl rfl) rfl rfl) (grown_setCell _ _ _ _)).mono ?_
    rintro e w1 ⟨rfl, hp⟩
    have Hp := Lib.hid hp
    clear hp
    go_wp2_with fail
    go_end0
    exact ⟨rfl, Hp.out⟩

set_option maxHeartbeats 400000 in
/-- take, where what it is handed says no: the reader has failed then. -/
theorem take_false (fid : Nat) (cap : Value) (g s : Nat) (l : List UInt8) (w : World) (Post : World → Prop) (hr : Rd w g l) (hs : s ≤ l.length) (hl : l.length ≤ 1000000)
    (eg : ∀ args w, (callFunc fid args).run Try.prog w = .ok (.enter fid args) w) (hP : ∀ W, Post W → ∃ v u, Blk W g 78 #[v, u])
    (huse : ∀ (A : Option Addr) (W : World), Part W g A (l.take s) (l.drop s) → w.grownBy W (some g) → Calls Try.prog fid #[.slice A s s, cap] W fun e W' => e = .returned (.bool false) ∧ Post W') :
    Calls Try.prog 50 #[.pointer (some ⟨g, 0, none⟩), .int .i64 (s : Int), .func (.func fid) #[] #[cap]] w fun e w' => e = .returned (.tuple #[]) ∧ ∃ W, Post W ∧ Fd w' g ∧ W.grownBy w' (some g) := by
  have hr' := hr
  obtain ⟨A, c, hg, hc, ha⟩ := hr
  have h0 : w.cell? ⟨g, 0, none⟩ = some (.slice A l.length c) := hg.cell 0
  have f0 := hg.frozen 0
  have Ha := Lib.hid ha
  have Hu := Lib.hid huse
  have HP := Lib.hid hP
  clear ha huse hP
  by_cases hcs : c = s
  · subst hcs
    go_enter Try.func50, Try.ntmps50
    go_wp2_with fail
    refine (failed_no g l _ hr').mono ?_
    rintro e w' ⟨rfl, rfl⟩
    go_wp2_with fail
    refine (Hu.out A _ (part_cut (c' := 0) (n' := 0) (A' := A) hg hc Ha.out hs (.inr rfl) (Nat.sub_self _).symm (by omega)) (grown_setCell _ _ _ _)).mono ?_
    rintro e w1 ⟨rfl, hp⟩
    obtain ⟨v, u, hb⟩ := HP.out w1 hp
    have Hp := Lib.hid hp
    clear hp
    go_wp2_with fail
    refine (fail_any g v u _ hb).mono ?_
    rintro e w2 ⟨rfl, hf, hgr⟩
    go_wp2_with fail
    go_end0
    exact ⟨rfl, w1, Hp.out, hf, hgr⟩
  · go_enter Try.func50, Try.ntmps50
    go_wp2_with fail
    refine (failed_no g l _ hr').mono ?_
    rintro e w' ⟨rfl, rfl⟩
    go_wp2_with fail
    refine (Hu.out A _ (part_cut hg hc Ha.out hs (.inl rfl) rfl rfl) (grown_setCell _ _ _ _)).mono ?_
    rintro e w1 ⟨rfl, hp⟩
    obtain ⟨v, u, hb⟩ := HP.out w1 hp
    have Hp := Lib.hid hp
    clear hp
    go_wp2_with fail
    refine (fail_any g v u _ hb).mono ?_
    rintro e w2 ⟨rfl, hf, hgr⟩
    go_wp2_with fail
    go_end0
    exact ⟨rfl, w1, Hp.out, hf, hgr⟩

/-- take, where there are too few bytes. -/
theorem take_short (f : Value) (g : Nat) (s : Int) (l : List UInt8) (w : World) (hr : Rd w g l) (hl : l.length ≤ 1000000) (hs : s < 0 ∨ (l.length : Int) < s) :
    Calls Try.prog 50 #[.pointer (some ⟨g, 0, none⟩), .int .i64 s, f] w fun e w' => e = .returned (.tuple #[]) ∧ Fd w' g ∧ w.grownBy w' (some g) := by
  have hr' := hr
  obtain ⟨A, c, hg, hc, ha⟩ := hr
  have h0 : w.cell? ⟨g, 0, none⟩ = some (.slice A l.length c) := hg.cell 0
  clear ha
  rcases hs with hs | hs
  · go_enter Try.func50, Try.ntmps50
    go_wp2_with fail
    refine (failed_no g l _ hr').mono ?_
    rintro e w' ⟨rfl, rfl⟩
    go_wp2_with fail
    refine (fail_any g _ _ _ hg).mono ?_
    rintro e w2 ⟨rfl, hf, hgr⟩
    go_wp2_with fail
    refine bodyPost_ret (results_none rfl _ _ _) rfl ?_
    exact ⟨rfl, hf, hgr⟩
  · go_enter Try.func50, Try.ntmps50
    go_wp2_with fail
    refine (failed_no g l _ hr').mono ?_
    rintro e w' ⟨rfl, rfl⟩
    go_wp2_with fail
    refine (fail_any g _ _ _ hg).mono ?_
    rintro e w2 ⟨rfl, hf, hgr⟩
    go_wp2_with fail
    refine bodyPost_ret (results_none rfl _ _ _) rfl ?_
    exact ⟨rfl, hf, hgr⟩
/-- take, of a reader that has failed. -/
theorem take_failed (f : Value) (g : Nat) (s : Int) (w : World) (hr : Fd w g) :
    Calls Try.prog 50 #[.pointer (some ⟨g, 0, none⟩), .int .i64 s, f] w fun e w' => e = .returned (.tuple #[]) ∧ w = w' := by
  go_enter Try.func50, Try.ntmps50
  go_wp2_with fail
  refine (failed_yes g _ hr).mono ?_
  rintro e w' ⟨rfl, rfl⟩
  go_wp2_with fail
  refine bodyPost_ret (results_none rfl _ _ _) rfl ?_
  exact ⟨rfl, rfl⟩
end Go.Proofs.Yteneicngmglgbaa

/-
  The walk of Diff.
-/
import Derived.Test.YtdbhffkfkklehaaDoorMkWalk
namespace Go.Proofs.YtdbhffkfkklehaaDoor
open Go.RowKit
set_option linter.unusedVariables false
set_option linter.unusedSimpArgs false
set_option maxRecDepth 100000

/-- What Diff answers: the buckets that differ, as a row of the call's own, and how many pairs. -/
def DiffEnd (X : List Nat) (n : Nat) (w : World) (e : Ending) (w' : World) : Prop :=
  ∃ v, e = .returned (.tuple #[v, .int .i64 (n : Int), .int .i64 0]) ∧ OwnI w' w.heap.size v X ∧ Below w.heap.size w w'
theorem OwnI.nil (w : World) (base : Nat) : OwnI w base (.slice none 0 0) [] := World.ownsRow_nil w base _ 1
theorem OwnI.mono {w : World} {base B : Nat} {v : Value} {X : List Nat} (h : OwnI w base v X) (hB : B ≤ base) : OwnI w B v X := by
  refine ⟨h.1, ?_⟩
  rcases h.2 with h2 | ⟨g, cap, cur, hv, hg, hh, r⟩
  · exact Or.inl h2
  · exact Or.inr ⟨g, cap, cur, hv, by omega, hh, r⟩

set_option maxHeartbeats 4000000 in
theorem diff_any (w : World) (g k : Nat) (H J : Nat → List UInt8) (h : Tr w g H) (hk : Tr w k J) :
    Calls Tryd.prog 24 #[.pointer (some ⟨g, 0, none⟩), .pointer (some ⟨k, 0, none⟩)] w (DiffEnd (wk H J 7 1).1 (wk H J 7 1).2 w) := by
  have hT := ((h.alloc (.cells #[.pointer (some ⟨g, 0, none⟩)] 25)).alloc (.cells #[.pointer (some ⟨k, 0, none⟩)] 25))
  have hK := ((hk.alloc (.cells #[.pointer (some ⟨g, 0, none⟩)] 25)).alloc (.cells #[.pointer (some ⟨k, 0, none⟩)] 25))
  have HT := Lib.hid h
  have HK := Lib.hid hk
  go_enter Tryd.func24, Tryd.ntmps24
  go_wp2_with fail
  refine (none_tree _ hT).mono ?_
  rintro e w1 ⟨rfl, rfl⟩
  go_wp2_with fail
  refine (none_tree _ hK).mono ?_
  rintro e w1 ⟨rfl, rfl⟩
  clear hT hK h hk
  go_wp2_with fail
  have hw : Wk w.heap.size w g k [] ((((w.alloc (.cells #[.pointer (some ⟨g, 0, none⟩)] 25)).alloc (.cells #[.pointer (some ⟨k, 0, none⟩)] 25)).alloc (.cells #[.slice none 0 0] 53)).alloc (.cells #[fvB w.heap.size] 69)) := by
    have e1 : (w.alloc (.cells #[.pointer (some ⟨g, 0, none⟩)] 25)).heap.size = w.heap.size + 1 := by simp
    have e2 : ((w.alloc (.cells #[.pointer (some ⟨g, 0, none⟩)] 25)).alloc (.cells #[.pointer (some ⟨k, 0, none⟩)] 25)).heap.size = w.heap.size + 1 + 1 := by simp
    have e3 : (((w.alloc (.cells #[.pointer (some ⟨g, 0, none⟩)] 25)).alloc (.cells #[.pointer (some ⟨k, 0, none⟩)] 25)).alloc (.cells #[.slice none 0 0] 53)).heap.size = w.heap.size + 1 + 1 + 1 := by simp
    refine ⟨((((Below.refl _ _).alloc (Nat.le_refl _) _).alloc (by simp) _).alloc (by simp; omega) _).alloc (by simp; omega) _, (((Blk.new w _ _).alloc _).alloc _).alloc _, ?_, ⟨.slice none 0 0, ?_, OwnI.nil _ _⟩, ?_⟩
    · have := ((Blk.new (w.alloc (.cells #[.pointer (some ⟨g, 0, none⟩)] 25)) 25 #[.pointer (some ⟨k, 0, none⟩)]).alloc (.cells #[.slice none 0 0] 53)).alloc (.cells #[fvB w.heap.size] 69)
      rw [e1] at this
      exact this
    · have := (Blk.new ((w.alloc (.cells #[.pointer (some ⟨g, 0, none⟩)] 25)).alloc (.cells #[.pointer (some ⟨k, 0, none⟩)] 25)) 53 #[.slice none 0 0]).alloc (.cells #[fvB w.heap.size] 69)
      rw [e2] at this
      exact this
    · have := Blk.new (((w.alloc (.cells #[.pointer (some ⟨g, 0, none⟩)] 25)).alloc (.cells #[.pointer (some ⟨k, 0, none⟩)] 25)).alloc (.cells #[.slice none 0 0] 53)) 69 #[fvB w.heap.size]
      rw [e3] at this
      exact this
  refine (walk_any HT.out HK.out HT.out.lt HK.out.lt 7 (Nat.le_refl _) 1 [] _ hw (by decide) (by decide) (by decide) (by decide)).mono ?_
  rintro e w2 ⟨rfl, hw2⟩
  rw [List.nil_append] at hw2
  obtain ⟨v, hv, hov⟩ := hw2.c3
  have HO := Lib.hid hov
  have HB := Lib.hid hw2.below
  have K3 := hv.cell 0
  simp only [List.getElem?_toArray, List.getElem?_cons_zero] at K3
  generalize hA : wk H J 7 1 = A at HO ⊢
  have HAA := Lib.hid hA
  clear hA
  clear hw hw2 hov hv
  go_wp2
  go_ret3
  exact ⟨v, by rw [HAA.out]; rfl, by rw [HAA.out]; exact HO.out.mono (by omega), HB.out⟩
theorem diff_no (w : World) (p q : Value) (hp : NoTr w p) (hq : ∃ g, q = .pointer g) :
    Calls Tryd.prog 24 #[p, q] w fun e w' => e = .returned (.tuple #[.slice none 0 0, .int .i64 0, .int .i64 1]) ∧ Below w.heap.size w w' := by
  have hsh : ∃ q, p = .pointer q := by rcases hp with rfl | ⟨g, rfl, _⟩ <;> exact ⟨_, rfl⟩
  obtain ⟨p, rfl⟩ := hsh
  obtain ⟨q, rfl⟩ := hq
  have hb : Below w.heap.size w ((w.alloc (.cells #[.pointer p] 25)).alloc (.cells #[.pointer q] 25)) := ((Below.refl _ _).alloc (Nat.le_refl _) _).alloc (by simp) _
  go_enter Tryd.func24, Tryd.ntmps24
  go_wp2_with fail
  refine (none_no _ _ (hp.below hb)).mono ?_
  rintro e w1 ⟨rfl, rfl⟩
  go_wp2
  go_ret3
  exact ⟨rfl, hb⟩
theorem diff_no2 (w : World) (g : Nat) (H : Nat → List UInt8) (q : Value) (h : Tr w g H) (hp : NoTr w q) :
    Calls Tryd.prog 24 #[.pointer (some ⟨g, 0, none⟩), q] w fun e w' => e = .returned (.tuple #[.slice none 0 0, .int .i64 0, .int .i64 1]) ∧ Below w.heap.size w w' := by
  have hsh : ∃ p, q = .pointer p := by rcases hp with rfl | ⟨g, rfl, _⟩ <;> exact ⟨_, rfl⟩
  obtain ⟨q, rfl⟩ := hsh
  have hb : Below w.heap.size w ((w.alloc (.cells #[.pointer (some ⟨g, 0, none⟩)] 25)).alloc (.cells #[.pointer q] 25)) := ((Below.refl _ _).alloc (Nat.le_refl _) _).alloc (by simp) _
  go_enter Tryd.func24, Tryd.ntmps24
  go_wp2_with fail
  refine (none_tree _ (h.past hb)).mono ?_
  rintro e w1 ⟨rfl, rfl⟩
  go_wp2_with fail
  refine (none_no _ _ (hp.below hb)).mono ?_
  rintro e w1 ⟨rfl, rfl⟩
  go_wp2
  go_ret3
  exact ⟨rfl, hb⟩
end Go.Proofs.YtdbhffkfkklehaaDoor

/-
  The walk of minsterlaw01.known: the chapter's rows come out as they stand there.
-/
import Derived.Test.YteneicngmglgbaaReadN
import Derived.Lib.SlBytesConst
namespace Go.Proofs.Yteneicngmglgbaa
open Go.RowKit
set_option linter.unusedVariables false

/-- A string made of a slice of bytes, in the seat's program. -/
theorem conv_any {w : World} {v : Value} {l : List UInt8} (h : Sl w v l) : (convert 23 9 v).run Try.prog w = .ok (.string ⟨l.toArray⟩) w :=
  h.conv Try.underlying23 Try.underlying5 Try.underlying9

/-- A new row of bytes, whatever its mark, as a slice. -/
theorem Sl.of_mark (w : World) (e : TypeId) (C : Array Value) (fr : Nat × Nat) (l : List UInt8) (n c : Nat) (hn : n = l.length) (hc : n ≤ c) (hC : C.toList = l.map bv) :
    Sl (w.alloc (.cells C e fr)) (.slice (some ⟨w.heap.size, 0, none⟩) n c) l := by
  subst hn
  refine ⟨_, c, rfl, hc, fun _ => ⟨w.heap.size, 0, rfl, fun j hj => ?_⟩⟩
  rw [World.cell?_alloc_mark, Nat.zero_add, ← Array.getElem?_toList, hC]
  simp [List.getElem?_eq_getElem hj, bv]

set_option maxHeartbeats 1000000 in
theorem known_any (w : World) : Calls Try.prog 9 #[] w fun e w' => e = .returned (.bool true) ∧ Below w.heap.size w w' := by
  have kc := fun (w : World) (C : Array Value) (n c : Nat) => Lib.run_convert_bytes_const (P := Try.prog) w 23 5 C n c Try.underlying23 Try.underlying5
  go_enter Try.func9, Try.ntmps9
  go_wp2_with fail
  refine (put_yes 258 2 w (by decide) (by decide) (by decide) (by decide)).mono ?_
  rintro e w1 ⟨v1, rfl, ho1, hb1⟩
  obtain ⟨A1, n1, c1, rfl⟩ := ho1.shape
  have hs1 := ho1.sl
  clear ho1
  go_wp2_with fail
  refine (put_no 256 1 w1 (by decide) (.inr (.inr (by decide)))).mono ?_
  rintro e w' ⟨rfl, rfl⟩
  go_wp2_with fail
  refine (blob_yes _ [97, 98] _ (Sl.of_mark w1 5 _ _ [97, 98] 2 2 rfl (Nat.le_refl _) rfl) (by decide)).mono ?_
  rintro e w2 ⟨v2, rfl, ho2, hb2⟩
  obtain ⟨A2, n2, c2, rfl⟩ := ho2.shape
  have hs2 := ho2.sl
  have hs1 := (hs1.alloc _).below hb2
  clear ho2
  go_wp2_with fail
  refine (dot_yes 2 5 w2 (by decide) (by decide)).mono ?_
  rintro e w3 ⟨v3, rfl, ho3, hb3⟩
  obtain ⟨A3, n3, c3, rfl⟩ := ho3.shape
  have k3 : (convert 23 9 (.slice A3 n3 c3)).run Try.prog w3 = .ok (.string ⟨#[2, 0, 0, 0, 0, 0, 0, 0, 5]⟩) w3 := conv_any ho3.sl
  have k2 : (convert 23 9 (.slice A2 n2 c2)).run Try.prog w3 = .ok (.string ⟨#[0, 2, 97, 98]⟩) w3 := conv_any (hs2.below hb3)
  have k1 : (convert 23 9 (.slice A1 n1 c1)).run Try.prog w3 = .ok (.string ⟨#[1, 2]⟩) w3 := conv_any (hs1.below hb3)
  clear ho3
  go_wp2_with (go_at_call 13; refine (num_any _ _).mono ?_; rintro e w' ⟨rfl, rfl⟩)
  clear k1 k2 k3 kc
  refine (read_any _ [0, 1, 7, 9] _ (Sl.of_mark w3 5 _ _ [0, 1, 7, 9] 4 4 rfl (Nat.le_refl _) rfl) (by decide)).mono ?_
  rintro e w4 ⟨g, rfl, hg, hr4, hb4⟩
  go_wp2_with fail
  refine (rblob_ok g 1 [0, 1, 7, 9] w4 hr4 (by decide) (by decide) (by decide) (by decide)).mono ?_
  rintro e w5 ⟨A5, rfl, hp5, hg5⟩
  have hr5 : Rd w5 g [9] := hp5.rd
  have hs5 : Sl w5 (.slice A5 1 1) [7] := hp5.sl rfl (Nat.le_refl _)
  go_wp2_with fail
  refine (left_no g [9] w5 hr5).mono ?_
  rintro e w' ⟨rfl, rfl⟩
  go_wp2_with fail
  refine (number_short g 2 [9] w5 hr5 (.inr (by decide)) (by decide)).mono ?_
  rintro e w6 ⟨rfl, hf6, hg6⟩
  have hlt4 := hr4.lt
  have k5 : (convert 23 9 (.slice A5 1 1)).run Try.prog w6 = .ok (.string ⟨#[7]⟩) w6 := conv_any (hp5.sl_grown hg6 rfl (Nat.le_refl _))
  go_wp2_with (first | (go_at_call 13; refine (num_any _ _).mono ?_; rintro e w' ⟨rfl, rfl⟩) | (go_at_call 33; refine (failed_yes g _ hf6).mono ?_; rintro e w' ⟨rfl, rfl⟩) | (go_at_call 31; refine (left_yes g _ hf6).mono ?_; rintro e w' ⟨rfl, rfl⟩) | (go_at_call 34; refine (end_yes g _ hf6).mono ?_; rintro e w' ⟨rfl, rfl⟩))
  go_ret
  have s1 := hb1.size
  have s2 := hb2.size
  have s3 := hb3.size
  have s4 := hb4.size
  have s5 := hg5.size
  simp at s2 s4 hg
  have b2 : Below w.heap.size w w2 := (hb1.alloc s1 _).trans (hb2.mono (by simp; omega))
  have b4 : Below w.heap.size w w4 := ((b2.trans (hb3.mono (by omega))).alloc (by omega) _).trans (hb4.mono (by simp; omega))
  exact ⟨rfl, Below.only (Below.only b4 hg5 (by omega) (by omega)) hg6 (by omega) (by omega)⟩
end Go.Proofs.Yteneicngmglgbaa

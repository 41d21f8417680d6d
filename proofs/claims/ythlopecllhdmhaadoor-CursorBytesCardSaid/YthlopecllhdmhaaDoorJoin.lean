/-
  The walks of wire.Join and the document's Join; of wire.Blob, wire.Dot, and the document's Blob and Dot.
-/
import Derived.Test.YthlopecllhdmhaaDoorPutA
import Derived.Deep.RegionHeld3
import Derived.Deep.RegionLaw
namespace Go.Proofs.YthlopecllhdmhaaDoor
open Go.RowKit
set_option linter.unusedVariables false

/-- The value v is a slice of slices of bytes that reads as the lists ls. -/
def Sls (w : World) (v : Value) (ls : List (List UInt8)) : Prop :=
  ∃ A c, v = .slice A ls.length c ∧ ls.length ≤ c ∧ (0 < ls.length → ∃ b o, A = some ⟨b, o, none⟩ ∧ ∀ j (h : j < ls.length), ∃ u, w.cell? ⟨b, o + j, none⟩ = some u ∧ Sl w u ls[j])

theorem Sls.below {w w' : World} {v : Value} {ls : List (List UInt8)} (h : Sls w v ls) (hb : Below w.heap.size w w') : Sls w' v ls := by
  obtain ⟨A, c, rfl, hc, ha⟩ := h
  refine ⟨A, c, rfl, hc, fun hn => ?_⟩
  obtain ⟨b, o, rfl, hx⟩ := ha hn
  refine ⟨b, o, rfl, fun j hj => ?_⟩
  obtain ⟨u, hu, hs⟩ := hx j hj
  exact ⟨u, (hb.cell (World.block_lt_of_cell? w _ hu)).trans hu, hs.below hb⟩

/-- Values that read as lists, one by one. -/
def SlAll (w : World) : List Value → List (List UInt8) → Prop
  | [], [] => True
  | v :: vs, l :: ls => Sl w v l ∧ SlAll w vs ls
  | _, _ => False
theorem SlAll.length {w : World} : ∀ {vs : List Value} {ls : List (List UInt8)}, SlAll w vs ls → vs.length = ls.length
  | [], [], _ => rfl
  | _ :: vs, _ :: ls, h => by simp [SlAll.length (vs := vs) (ls := ls) h.2]
  | [], _ :: _, h => h.elim
  | _ :: _, [], h => h.elim
theorem SlAll.get {w : World} : ∀ {vs : List Value} {ls : List (List UInt8)} (h : SlAll w vs ls) (j : Nat) (hj : j < ls.length), ∃ u, vs[j]? = some u ∧ Sl w u ls[j]
  | [], [], _, j, hj => absurd hj (by simp)
  | v :: vs, l :: ls, h, 0, _ => ⟨v, rfl, h.1⟩
  | v :: vs, l :: ls, h, j + 1, hj => by
    obtain ⟨u, hu, hs⟩ := SlAll.get (vs := vs) (ls := ls) h.2 j (by simpa using hj)
    exact ⟨u, by simpa using hu, by simpa using hs⟩
  | [], _ :: _, h, _, _ => h.elim
  | _ :: _, [], h, _, _ => h.elim
/-- A new block of slices. -/
theorem Sls.of_new (w : World) (e : TypeId) (C : Array Value) (ls : List (List UInt8)) (n : Nat) (hn : n = ls.length) (h : SlAll w C.toList ls) :
    Sls (w.alloc (.cells C e)) (.slice (some ⟨w.heap.size, 0, none⟩) n n) ls := by
  subst hn
  refine ⟨_, _, rfl, Nat.le_refl _, fun _ => ⟨_, 0, rfl, fun j hj => ?_⟩⟩
  obtain ⟨u, hu, hs⟩ := h.get j hj
  refine ⟨u, ?_, hs.alloc _⟩
  rw [Nat.zero_add, (Blk.new w e C).cell j, ← hu]
  simp

theorem flatten_take_succ (ls : List (List UInt8)) (k : Nat) (h : k < ls.length) : (ls.take (k + 1)).flatten = (ls.take k).flatten ++ ls[k] := by
  rw [List.take_succ_eq_append_getElem h, List.flatten_append]; simp
theorem flatten_take_le (ls : List (List UInt8)) (k : Nat) (h : k < ls.length) : (ls.take k).flatten.length + ls[k].length ≤ ls.flatten.length := by
  have h1 := flatten_take_succ ls k h
  have h2 : ls.flatten = (ls.take (k + 1)).flatten ++ (ls.drop (k + 1)).flatten := by rw [← List.flatten_append, List.take_append_drop]
  have h3 := congrArg List.length h1
  have h4 := congrArg List.length h2
  rw [List.length_append] at h3 h4
  omega

set_option maxHeartbeats 400000 in
theorem join_big (v : Value) (ls : List (List UInt8)) (w : World) (hs : Sls w v ls) (hl : ls.flatten.length ≤ 1000000000) (hn : ls.length ≤ 1000000) :
    Calls Tryd.prog 22 #[v] w fun e w' => ∃ v', e = .returned v' ∧ Own w' w.heap.size 5 v' ls.flatten ∧ Below w.heap.size w w' := by
  obtain ⟨i0, hi, hz0, hz1, hz2⟩ := info_parts info_u8
  have hs' := hs
  obtain ⟨A, c, rfl, hc, ha⟩ := hs
  clear ha
  go_enter Tryd.func22, Tryd.ntmps22
  go_wp2
  go_loopw [3, 8] (fun x z wr => ∃ k : Nat, k ≤ ls.length ∧ z = .int .i64 (k : Int) ∧ Own wr w.heap.size 5 x (ls.take k).flatten ∧ Below w.heap.size w wr) (fun _ z _ => ls.length - (intOf z).toNat)
  case atStart => exact ⟨0, Nat.zero_le _, rfl, by simpa using Own.nil, Below.refl _ _⟩
  case round =>
    obtain ⟨k, hk, rfl, ho, hb⟩ := hrel
    by_cases hlt : k < ls.length
    · obtain ⟨A', c', e, _, ha⟩ := hs'.below hb
      injection e with e1 e2 e3
      subst e1 e3
      obtain ⟨b, o, rfl, hx⟩ := ha (by omega)
      obtain ⟨u, hu, hsu⟩ := hx k hlt
      have hsu' := hsu
      obtain ⟨A2, c2, rfl, _, _⟩ := hsu
      have Hlen := Lib.hid (Nat.le_trans (flatten_take_le ls k hlt) hl)
      have hbw := hb.size
      clear hx ha hs'
      go_wp2_with (at_builtin; refine wpList_append_bytes _ rfl _ _ 22 rfl w.heap.size 5 i0 Tryd.underlying22 hi hz0 hz1 hz2 _ (ls.take k).flatten rfl ho _ ls[k] rfl hsu' Hlen.out hbw ?_)
      intro v' w1 ho1 hb1
      have Ho := Lib.hid ho1
      clear ho1
      go_wp2
      go_roundw
      case rel => exact ⟨k + 1, by omega, by go_num, by rw [flatten_take_succ ls k hlt]; exact Ho.out, hb.trans hb1⟩
      case measure => simp [intOf]; omega
    · obtain rfl : k = ls.length := by omega
      go_wp2
      go_ret
      rw [List.take_length] at ho
      exact ⟨_, rfl, ho, hb⟩
theorem join_any (v : Value) (ls : List (List UInt8)) (w : World) (hs : Sls w v ls) (hl : ls.flatten.length ≤ 1000000) (hn : ls.length ≤ 1000000) :
    Calls Tryd.prog 22 #[v] w fun e w' => ∃ v', e = .returned v' ∧ Own w' w.heap.size 5 v' ls.flatten ∧ Below w.heap.size w w' :=
  join_big v ls w hs (Nat.le_trans hl (by decide)) hn

/-- wire.Blob, of one that is not too long. -/
theorem blob_yes (v : Value) (l : List UInt8) (w : World) (hs : Sl w v l) (hl : l.length ≤ 65535) :
    Calls Tryd.prog 33 #[v] w fun e w' => ∃ v', e = .returned (.tuple #[v', .int .i64 0]) ∧ Own w' w.heap.size 5 v' (beB 2 l.length ++ l) ∧ Below w.heap.size w w' := by
  have hs' := hs
  obtain ⟨A, c, rfl, hc, ha⟩ := hs
  clear ha
  go_enter Tryd.func33, Tryd.ntmps33
  go_wp2_with fail
  refine (appendNumber_any _ [] l.length 2 w.heap.size w Own.nil (Nat.le_refl _) (by simp) (by omega) (by omega)).mono ?_
  rintro e w1 ⟨v1, rfl, ho, hb⟩
  rw [List.nil_append] at ho
  obtain ⟨A1, n1, c1, rfl⟩ := ho.shape
  have Ho := Lib.hid ho
  clear ho
  go_wp2_with fail
  refine (join_any _ [beB 2 l.length, l] _ ?_ ?_ ?_).mono ?_
  · exact Sls.of_new w1 _ _ _ 2 rfl ⟨Ho.out.sl, hs'.below hb, trivial⟩
  · simp [beB_length]; omega
  · simp
  rintro e w2 ⟨v2, rfl, ho2, hb2⟩
  have Ho2 := Lib.hid ho2
  clear ho2
  go_wp2
  go_ret2
  have e : [beB 2 l.length, l].flatten = beB 2 l.length ++ l := by simp
  have hsz := hb.size
  exact ⟨_, rfl, by rw [← e]; exact Ho2.out.mono (by simp; omega), (hb.alloc hsz _).trans (hb2.mono (by simp; omega))⟩
theorem blob_no (v : Value) (l : List UInt8) (w : World) (hs : Sl w v l) (hl : 65535 < l.length) :
    Calls Tryd.prog 33 #[v] w fun e w' => e = .returned (.tuple #[.slice none 0 0, .int .i64 3]) ∧ w = w' := by
  obtain ⟨A, c, rfl, hc, ha⟩ := hs
  clear ha
  go_enter Tryd.func33, Tryd.ntmps33
  go_wp2
  go_ret2
  exact ⟨rfl, rfl⟩

set_option maxHeartbeats 400000 in
/-- The document's Blob. -/
theorem refBlob_any (v : Value) (l : List UInt8) (w : World) (hs : Sl w v l) (hl : l.length ≤ 65535) :
    Calls Tryd.prog 26 #[v] w fun e w' => ∃ v', e = .returned v' ∧ Own w' w.heap.size 5 v' (beB 2 l.length ++ l) ∧ Below w.heap.size w w' := by
  obtain ⟨i0, hi, hz0, hz1, hz2⟩ := info_parts info_u8
  have hs' := hs
  obtain ⟨A, c, rfl, hc, ha⟩ := hs
  clear ha
  go_enter Tryd.func26, Tryd.ntmps26
  go_wp2_with fail
  refine (refPut_any l.length 2 w (by omega) (by omega)).mono ?_
  rintro e w1 ⟨v1, rfl, ho, hb⟩
  have Hlen := Lib.hid (show (beB 2 l.length).length + l.length ≤ 1000000000 by rw [beB_length]; omega)
  have hsz := hb.size
  go_wp2_with (at_builtin; refine wpList_append_bytes _ rfl _ _ 22 rfl w.heap.size 5 i0 Tryd.underlying22 hi hz0 hz1 hz2 _ (beB 2 l.length) rfl ho _ l rfl (hs'.below hb) Hlen.out hsz ?_)
  intro v2 w2 ho2 hb2
  have Ho2 := Lib.hid ho2
  clear ho2
  go_wp2
  go_ret
  exact ⟨_, rfl, Ho2.out, hb.trans hb2⟩

end Go.Proofs.YthlopecllhdmhaaDoor

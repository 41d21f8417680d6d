/-
  The walks of wire.Join and the document's Join; of wire.Blob, wire.Dot, and the document's Blob and Dot.
-/
import Derived.Test.YtibifnknkphanaaGreatDoorPutA
import Derived.Deep.RegionHeld3
import Derived.Deep.RegionLaw
import Derived.Test.YtibifnknkphanaaGreatDoorCrcSum
namespace Go.Proofs.YtibifnknkphanaaGreatDoor
open Go.RowKit
set_option linter.unusedVariables false

/-- Values that read as lists, one by one. -/
def SlAll (w : World) : List Value → List (List UInt8) → Prop
  | [], [] => True
  | v :: vs, l :: ls => Sl w v l ∧ SlAll w vs ls
  | _, _ => False
theorem SlAll.length {w : World} : ∀ {vs : List Value} {ls : List (List UInt8)}, SlAll w vs ls → vs.length = ls.length
  | [], [], _ => rfl
  | _ :: vs, _ :: ls, h => by simp [SlAll.length (vs := vs) (ls := ls) h.2]
  | [], _ :: _, h => h.elim
  | _ :: _, [], h => h.elim
theorem SlAll.get {w : World} : ∀ {vs : List Value} {ls : List (List UInt8)} (h : SlAll w vs ls) (j : Nat) (hj : j < ls.length), ∃ u, vs[j]? = some u ∧ Sl w u ls[j]
  | [], [], _, j, hj => absurd hj (by simp)
  | v :: vs, l :: ls, h, 0, _ => ⟨v, rfl, h.1⟩
  | v :: vs, l :: ls, h, j + 1, hj => by
    obtain ⟨u, hu, hs⟩ := SlAll.get (vs := vs) (ls := ls) h.2 j (by simpa using hj)
    exact ⟨u, by simpa using hu, by simpa using hs⟩
  | [], _ :: _, h, _, _ => h.elim
  | _ :: _, [], h, _, _ => h.elim
/-- A new block of slices. -/
theorem Sls.of_new (w : World) (e : TypeId) (C : Array Value) (ls : List (List UInt8)) (n : Nat) (hn : n = ls.length) (h : SlAll w C.toList ls) :
    Sls (w.alloc (.cells C e)) (.slice (some ⟨w.heap.size, 0, none⟩) n n) ls := by
  subst hn
  refine ⟨_, _, rfl, Nat.le_refl _, fun _ => ⟨_, 0, rfl, fun j hj => ?_⟩⟩
  obtain ⟨u, hu, hs⟩ := h.get j hj
  refine ⟨u, ?_, hs.alloc _⟩
  rw [Nat.zero_add, (Blk.new w e C).cell j, ← hu]
  simp

set_option maxHeartbeats 400000 in
theorem join_big (v : Value) (ls : List (List UInt8)) (w : World) (hs : Sls w v ls) (hl : ls.flatten.length ≤ 1000000000) (hn : ls.length ≤ 1000000) :
    Calls Tryz.prog 46 #[v] w fun e w' => ∃ v', e = .returned v' ∧ Own w' w.heap.size 5 v' ls.flatten ∧ Below w.heap.size w w' := by
  obtain ⟨i0, hi, hz0, hz1, hz2⟩ := info_parts info_u8
  have hs' := hs
  obtain ⟨A, c, rfl, hc, ha⟩ := hs
  clear ha
  go_enter Tryz.func46, Tryz.ntmps46
  go_wp2
  go_loopw [3, 8] (fun x z wr => ∃ k : Nat, k ≤ ls.length ∧ z = .int .i64 (k : Int) ∧ Own wr w.heap.size 5 x (ls.take k).flatten ∧ Below w.heap.size w wr) (fun _ z _ => ls.length - (intOf z).toNat)
  case atStart => exact ⟨0, Nat.zero_le _, rfl, by simpa using Own.nil, Below.refl _ _⟩
  case round =>
    obtain ⟨k, hk, rfl, ho, hb⟩ := hrel
    by_cases hlt : k < ls.length
    · obtain ⟨A', c', e, _, ha⟩ := hs'.below hb
      injection e with e1 e2 e3
      subst e1 e3
      obtain ⟨b, o, rfl, hx⟩ := ha (by omega)
      obtain ⟨u, hu, hsu⟩ := hx k hlt
      have hsu' := hsu
      obtain ⟨A2, c2, rfl, _, _⟩ := hsu
      have Hlen := Lib.hid (Nat.le_trans (flatten_take_le ls k hlt) hl)
      have hbw := hb.size
      clear hx ha hs'
      go_wp2_with (at_builtin; refine wpList_append_bytes _ rfl _ _ 22 rfl w.heap.size 5 i0 Tryz.underlying22 hi hz0 hz1 hz2 _ (ls.take k).flatten rfl ho _ ls[k] rfl hsu' Hlen.out hbw ?_)
      intro v' w1 ho1 hb1
      have Ho := Lib.hid ho1
      clear ho1
      go_wp2
      go_roundw
      case rel => exact ⟨k + 1, by omega, by go_num, by rw [flatten_take_succ ls k hlt]; exact Ho.out, hb.trans hb1⟩
      case measure => simp [intOf]; omega
    · obtain rfl : k = ls.length := by omega
      go_wp2
      go_ret
      rw [List.take_length] at ho
      exact ⟨_, rfl, ho, hb⟩
theorem join_any (v : Value) (ls : List (List UInt8)) (w : World) (hs : Sls w v ls) (hl : ls.flatten.length ≤ 1000000) (hn : ls.length ≤ 1000000) :
    Calls Tryz.prog 46 #[v] w fun e w' => ∃ v', e = .returned v' ∧ Own w' w.heap.size 5 v' ls.flatten ∧ Below w.heap.size w w' :=
  join_big v ls w hs (Nat.le_trans hl (by decide)) hn

set_option maxHeartbeats 400000 in
theorem refJoin_any (v : Value) (ls : List (List UInt8)) (w : World) (hs : Sls w v ls) (hl : ls.flatten.length ≤ 1000000) (hn : ls.length ≤ 1000000) :
    Calls Tryz.prog 51 #[v] w fun e w' => ∃ v', e = .returned v' ∧ Own w' w.heap.size 5 v' ls.flatten ∧ Below w.heap.size w w' := by
  obtain ⟨i0, hi, hz0, hz1, hz2⟩ := info_parts info_u8
  have hs' := hs
  obtain ⟨A, c, rfl, hc, ha⟩ := hs
  clear ha
  go_enter Tryz.func51, Tryz.ntmps51
  go_wp2
  go_loopw [3, 4] (fun x z wr => ∃ k : Nat, k ≤ ls.length ∧ z = .int .i64 (k : Int) ∧ Own wr w.heap.size 5 x (ls.take k).flatten ∧ Below w.heap.size w wr) (fun _ z _ => ls.length - (intOf z).toNat)
  case atStart => exact ⟨0, Nat.zero_le _, rfl, by simpa using Own.nil, Below.refl _ _⟩
  case round =>
    obtain ⟨k, hk, rfl, ho, hb⟩ := hrel
    by_cases hlt : k < ls.length
    · obtain ⟨A', c', e, _, ha⟩ := hs'.below hb
      injection e with e1 e2 e3
      subst e1 e3
      obtain ⟨b, o, rfl, hx⟩ := ha (by omega)
      obtain ⟨u, hu, hsu⟩ := hx k hlt
      have hsu' := hsu
      obtain ⟨A2, c2, rfl, _, _⟩ := hsu
      have Hlen := Lib.hid (Nat.le_trans (flatten_take_le ls k hlt) (Nat.le_trans hl (by decide : 1000000 ≤ 1000000000)))
      have hbw := hb.size
      clear hx ha hs'
      go_wp2_with (at_builtin; refine wpList_append_bytes _ rfl _ _ 22 rfl w.heap.size 5 i0 Tryz.underlying22 hi hz0 hz1 hz2 _ (ls.take k).flatten rfl ho _ ls[k] rfl hsu' Hlen.out hbw ?_)
      intro v' w1 ho1 hb1
      have Ho := Lib.hid ho1
      clear ho1
      go_wp2
      go_roundw
      case rel => exact ⟨k + 1, by omega, by go_num, by rw [flatten_take_succ ls k hlt]; exact Ho.out, hb.trans hb1⟩
      case measure => simp [intOf]; omega
    · obtain rfl : k = ls.length := by omega
      go_wp2
      go_ret
      rw [List.take_length] at ho
      exact ⟨_, rfl, ho, hb⟩


end Go.Proofs.YtibifnknkphanaaGreatDoor

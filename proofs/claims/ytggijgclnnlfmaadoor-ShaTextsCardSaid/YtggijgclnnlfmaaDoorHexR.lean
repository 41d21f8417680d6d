/-
  The document's Hex, walked.
-/
import Derived.Test.YtggijgclnnlfmaaDoorHexPlain
namespace Go.Proofs.YtggijgclnnlfmaaDoor
open Go.RowKit
set_option linter.unusedVariables false
set_option linter.unusedSimpArgs false

set_option maxRecDepth 20000 in
set_option maxHeartbeats 2000000 in
theorem refHex_any (v : Value) (l : List UInt8) (w : World) (hs : Sl w v l) (hl : l.length ≤ 10000) :
    Calls Tryd.prog 18 #[v] w fun e w' => e = .returned (.string ⟨(hexB l).toArray⟩) ∧ Below w.heap.size w w' := by
  obtain ⟨i0, hi, hz0, hz1, hz2⟩ := info_parts info_u8
  have hs' := hs
  obtain ⟨A, c, rfl, hc, ha⟩ := hs
  clear ha
  go_enter Tryd.func18, Tryd.ntmps18
  go_wp2
  go_loopw [4, 5] (fun x z wr => ∃ k : Nat, k ≤ l.length ∧ z = .int .i64 (k : Int) ∧ Own wr w.heap.size 5 x (hexB (l.take k)) ∧ Below w.heap.size w wr) (fun _ z _ => l.length - (intOf z).toNat)
  case atStart => exact ⟨0, Nat.zero_le _, rfl, by simpa [hexB] using Own.nil, Below.refl _ _⟩
  case round =>
    obtain ⟨k, hk, rfl, ho, hb⟩ := hrel
    by_cases hlt : k < l.length
    · obtain ⟨A', c', e, _, ha⟩ := hs'
      injection e with e1 e2 e3
      subst e1 e3
      obtain ⟨b, o, rfl, hx⟩ := ha (by omega)
      have hcw := hx k hlt
      clear hx ha
      have hcd : wr.drew.cell? ⟨b, o + k, none⟩ = some (.int .u8 (l[k].toNat : Int)) := Keeps.of_below hb _ _ hcw
      have Hcw := Lib.hid hcw
      clear hcw
      have hcl : l[k].toNat < 256 := UInt8.toNat_lt _
      obtain ⟨p, hp⟩ : ∃ p : Nat, l[k].toNat / 16 = p := ⟨_, rfl⟩
      obtain ⟨q, hq⟩ : ∃ q : Nat, l[k].toNat % 16 = q := ⟨_, rfl⟩
      have hp16 : p < 16 := by omega
      have hq16 : q < 16 := by omega
      go_wp2_with fail
      refine wp_region_held_drew (S := fun w' => w'.cell? ⟨b, o + k, none⟩ = some (.int .u8 (l[k].toNat : Int))) (by kernel_rfl) hcd (fun _ => ?_)
      refine' wpAnyH_take (i := 0) (oi := ⟨some 12, _, _, _, _, _⟩) (v := _) rfl (by kernel_rfl) (by kernel_rfl) (by kernel_rfl) (fun _ _ _ h => h) (Or.inl ⟨by rfl, ?y0⟩) hcd ?r0
      case y0 => (intro w' hSw; go_simp; try rfl)
      try simp only [Act.put, List.setIfInBounds_toArray, List.set_cons_zero, List.set_cons_succ]
      refine' wpAnyH_take (i := 1) (oi := ⟨some 13, _, _, _, _, _⟩) (v := _) rfl (by kernel_rfl) (by kernel_rfl) (by kernel_rfl) (fun _ _ _ h => h) (Or.inl ⟨by rfl, ?y1⟩) hcd ?r1
      case y1 => (intro w' hSw; go_simp; try rfl)
      try simp only [Act.put, List.setIfInBounds_toArray, List.set_cons_zero, List.set_cons_succ]
      refine' wpAnyH_take (i := 2) (oi := ⟨some 14, _, _, _, _, _⟩) (v := _) rfl (by kernel_rfl) (by kernel_rfl) (by kernel_rfl) (fun _ _ _ h => h) (Or.inl ⟨by rfl, ?y2⟩) hcd ?r2
      case y2 => (intro w' hSw; go_simp; try rfl)
      try simp only [Act.put, List.setIfInBounds_toArray, List.set_cons_zero, List.set_cons_succ]
      refine' wpAnyH_take (i := 3) (oi := ⟨some 15, _, _, _, _, _⟩) (v := _) rfl (by kernel_rfl) (by kernel_rfl) (by kernel_rfl) (fun _ _ _ h => h) (Or.inl ⟨by rfl, ?y3⟩) hcd ?r3
      case y3 => (intro w' hSw; go_simp; try rfl)
      try simp only [Act.put, List.setIfInBounds_toArray, List.set_cons_zero, List.set_cons_succ]
      refine' wpAnyH_take (i := 4) (oi := ⟨some 16, _, _, _, _, _⟩) (v := .pointer (some ⟨b, o + k, none⟩)) rfl (by kernel_rfl) (by kernel_rfl) (by kernel_rfl) (fun _ _ _ h => h) (Or.inl ⟨by rfl, ?y4⟩) hcd ?r4
      case y4 => (intro w' hSw; go_simp; try rfl)
      try simp only [Act.put, List.setIfInBounds_toArray, List.set_cons_zero, List.set_cons_succ]
      refine' wpAnyH_take (i := 5) (oi := ⟨some 17, _, _, _, _, _⟩) (v := _) rfl (by kernel_rfl) (by kernel_rfl) (by kernel_rfl) (fun _ _ _ h => h) (Or.inl ⟨by rfl, ?y5⟩) hcd ?r5
      case y5 => (intro w' hSw; go_simp; try rfl)
      try simp only [Act.put, List.setIfInBounds_toArray, List.set_cons_zero, List.set_cons_succ]
      refine' wpAnyH_take (i := 6) (oi := ⟨some 18, _, _, _, _, _⟩) (v := .int .u8 (p : Int)) rfl (by kernel_rfl) (by kernel_rfl) (by kernel_rfl) (fun _ _ _ h => h) (Or.inl ⟨by rfl, ?y6⟩) hcd ?r6
      case y6 => (intro w' hSw; go_simp; subst hp; go_simp; first | go_num | (simp only [wrap_u8]; omega) | (simp [IntKind.wrap, IntKind.bits]; omega))
      try simp only [Act.put, List.setIfInBounds_toArray, List.set_cons_zero, List.set_cons_succ]
      refine' wpAnyH_take (i := 7) (oi := ⟨some 19, _, _, _, _, _⟩) (v := .int .u8 ((dig p).toNat : Int)) rfl (by kernel_rfl) (by kernel_rfl) (by kernel_rfl) (fun _ _ _ h => h) (Or.inl ⟨by rfl, ?y7⟩) hcd ?r7
      case y7 => (intro w' hSw; clear hp; (have hh := sixteen hp16; clear hp16; rcases hh with hh | hh | hh | hh | hh | hh | hh | hh | hh | hh | hh | hh | hh | hh | hh | hh <;> subst hh <;> (refine Eq.trans ?_ rfl; kernel_rfl)))
      try simp only [Act.put, List.setIfInBounds_toArray, List.set_cons_zero, List.set_cons_succ]
      refine' wpAnyH_take (i := 8) (oi := ⟨some 20, _, _, _, _, _⟩) (v := _) rfl (by kernel_rfl) (by kernel_rfl) (by kernel_rfl) (fun _ _ _ h => h) (Or.inl ⟨by rfl, ?y8⟩) hcd ?r8
      case y8 => (intro w' hSw; go_simp; try rfl)
      try simp only [Act.put, List.setIfInBounds_toArray, List.set_cons_zero, List.set_cons_succ]
      refine' wpAnyH_take (i := 9) (oi := ⟨some 21, _, _, _, _, _⟩) (v := _) rfl (by kernel_rfl) (by kernel_rfl) (by kernel_rfl) (fun _ _ _ h => h) (Or.inl ⟨by rfl, ?y9⟩) hcd ?r9
      case y9 => (intro w' hSw; go_simp; try rfl)
      try simp only [Act.put, List.setIfInBounds_toArray, List.set_cons_zero, List.set_cons_succ]
      refine' wpAnyH_take (i := 10) (oi := ⟨some 22, _, _, _, _, _⟩) (v := _) rfl (by kernel_rfl) (by kernel_rfl) (by kernel_rfl) (fun _ _ _ h => h) (Or.inl ⟨by rfl, ?y10⟩) hcd ?r10
      case y10 => (intro w' hSw; go_simp; try rfl)
      try simp only [Act.put, List.setIfInBounds_toArray, List.set_cons_zero, List.set_cons_succ]
      refine' wpAnyH_take (i := 11) (oi := ⟨some 23, _, _, _, _, _⟩) (v := .pointer (some ⟨b, o + k, none⟩)) rfl (by kernel_rfl) (by kernel_rfl) (by kernel_rfl) (fun _ _ _ h => h) (Or.inl ⟨by rfl, ?y11⟩) hcd ?r11
      case y11 => (intro w' hSw; go_simp; try rfl)
      try simp only [Act.put, List.setIfInBounds_toArray, List.set_cons_zero, List.set_cons_succ]
      refine' wpAnyH_take (i := 12) (oi := ⟨some 24, _, _, _, _, _⟩) (v := _) rfl (by kernel_rfl) (by kernel_rfl) (by kernel_rfl) (fun _ _ _ h => h) (Or.inl ⟨by rfl, ?y12⟩) hcd ?r12
      case y12 => (intro w' hSw; go_simp; try rfl)
      try simp only [Act.put, List.setIfInBounds_toArray, List.set_cons_zero, List.set_cons_succ]
      refine' wpAnyH_take (i := 13) (oi := ⟨some 25, _, _, _, _, _⟩) (v := .int .u8 (q : Int)) rfl (by kernel_rfl) (by kernel_rfl) (by kernel_rfl) (fun _ _ _ h => h) (Or.inl ⟨by rfl, ?y13⟩) hcd ?r13
      case y13 => (intro w' hSw; go_simp; subst hq; go_simp; rw [Int.tmod_eq_emod_of_nonneg (by omega)])
      try simp only [Act.put, List.setIfInBounds_toArray, List.set_cons_zero, List.set_cons_succ]
      refine' wpAnyH_take (i := 14) (oi := ⟨some 26, _, _, _, _, _⟩) (v := .int .u8 ((dig q).toNat : Int)) rfl (by kernel_rfl) (by kernel_rfl) (by kernel_rfl) (fun _ _ _ h => h) (Or.inl ⟨by rfl, ?y14⟩) hcd ?r14
      case y14 => (intro w' hSw; clear hq; (have hh := sixteen hq16; clear hq16; rcases hh with hh | hh | hh | hh | hh | hh | hh | hh | hh | hh | hh | hh | hh | hh | hh | hh <;> subst hh <;> (refine Eq.trans ?_ rfl; kernel_rfl)))
      try simp only [Act.put, List.setIfInBounds_toArray, List.set_cons_zero, List.set_cons_succ]
      refine held_one (i := 15) (by kernel_rfl) rfl (fun K hK => ?_)
      go_simp
      have hbl : Below wr.heap.size wr (wr.alloc (.cells #[.int .u8 ((dig p).toNat : Int), .int .u8 ((dig q).toNat : Int)] 5)).drew := ((Below.refl _ _).alloc (Nat.le_refl _) _).drew
      have hlen : (hexB (l.take k)).length + [dig p, dig q].length ≤ 1000000000 := by rw [hexB_length]; simp only [List.length_take, List.length_cons, List.length_nil]; omega
      refine hK.out _ _ (Keeps.of_below hbl _ _ hcd) (fun _ => ?_)
      clear hK K
      refine held_one (i := 16) (by kernel_rfl) rfl (fun K hK => ?_)
      refine step_append_bytes2 _ rfl _ _ 25 rfl w.heap.size 5 i0 Tryd.underlying25 hi hz0 hz1 hz2 u4 (hexB (l.take k)) (by rfl) (ho.alloc _).drew _ [dig p, dig q] (by rfl) (Sl.two wr 5 (dig p) (dig q)).drew hlen (Nat.le_trans hb.size hbl.size) ?_
      intro v3 w3 ho3 hg3
      have hb3 : Below w.heap.size w w3 := (hb.trans (hbl.mono hb.size)).grown hg3 (Nat.le_trans hb.size hbl.size) (fun g hg => (ho.lt g hg).1)
      have hc3 := Keeps.of_below hb3 _ _ Hcw.out
      obtain ⟨A3, n3, c3, rfl⟩ := ho3.shape
      have Ho := Lib.hid ho3
      have Hb := Lib.hid hb3
      clear ho3 hb3 hg3 ho hb hbl hcd
      refine hK.out _ _ hc3 (fun _ => ?_)
      clear hK K
      try simp only [Act.put, List.setIfInBounds_toArray, List.set_cons_zero, List.set_cons_succ]
      refine' wpAnyH_take (i := 17) (oi := ⟨some 4, _, _, _, _, _⟩) (v := _) rfl (by kernel_rfl) (by kernel_rfl) (by kernel_rfl) (fun _ _ _ h => h) (Or.inl ⟨by rfl, ?y17⟩) hc3 ?r17
      case y17 => (intro w' hSw; go_simp; try rfl)
      try simp only [Act.put, List.setIfInBounds_toArray, List.set_cons_zero, List.set_cons_succ]
      refine wpAnyH_done (by kernel_rfl) ?_ _
      go_wp2_with fail
      go_roundw
      case rel => exact ⟨k + 1, hlt, by go_num, by rw [hexB_take l k hlt, hp, hq]; exact Ho.out, Hb.out⟩
      case measure => simp [intOf]; omega
    · obtain rfl : k = l.length := by omega
      rw [List.take_length] at ho
      obtain ⟨A2, n2, c2, rfl⟩ := ho.shape
      have q := conv_any ho.sl
      go_wp2
      go_ret
      exact ⟨rfl, hb⟩
end Go.Proofs.YtggijgclnnlfmaaDoor

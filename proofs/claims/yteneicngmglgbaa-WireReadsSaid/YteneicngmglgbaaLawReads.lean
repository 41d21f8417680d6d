/-
  The walk of minsterlaw01.WireReads.
-/
import Derived.Test.YteneicngmglgbaaLooks
import Derived.Test.YteneicngmglgbaaLawHex
import Derived.Laws.IdiomStrings
namespace Go.Proofs.Yteneicngmglgbaa.RB
open Go.RowKit
set_option linter.unusedVariables false
set_option linter.unusedSimpArgs false

set_option maxHeartbeats 1000000 in
theorem reads_long (v v2 : Value) (l : List UInt8) (ls : List (Int × Int)) (w : World) (hs : Sl w v l) (hp : Stp w v2 ls) (h : 9000 < l.length ∨ 300 < ls.length) :
    Calls Try.prog 6 #[v, v2] w fun e w' => e = .returned (.bool true) ∧ Below w.heap.size w w' := by
  obtain ⟨A, c, rfl, hc, ha⟩ := hs
  obtain ⟨A2, c2, rfl, hc2, ha2⟩ := hp
  clear ha ha2
  by_cases h1 : 9000 < l.length
  · have h1' : (9000 : Int) < (l.length : Int) := by omega
    go_enter Try.func6, Try.ntmps6
    go_wp2_with (go_at_call 9; refine (known_any _).mono ?_; rintro e w2 ⟨rfl, hb2⟩)
    go_ret
    exact ⟨rfl, hb2⟩
  · have h1' : ¬ (9000 : Int) < (l.length : Int) := by omega
    have h2' : (300 : Int) < (ls.length : Int) := by omega
    go_enter Try.func6, Try.ntmps6
    go_wp2_with (go_at_call 9; refine (known_any _).mono ?_; rintro e w2 ⟨rfl, hb2⟩)
    go_ret
    exact ⟨rfl, hb2⟩

/-- The text's bytes, as new memory that bears a mark, and a reader of the document's over them. -/
theorem conv_ref (l : List UInt8) (w : World) (hl : l.length ≤ 9000) :
    ∃ cB W, (convert 9 23 (.string ⟨l.toArray⟩)).run Try.prog w = .ok (.slice (some ⟨w.heap.size, 0, none⟩) l.length cB) W ∧ Below w.heap.size w W ∧ w.heap.size < W.heap.size ∧
      RR (W.alloc (.cells #[.slice (some ⟨w.heap.size, 0, none⟩) l.length cB, .int .i64 0, .bool false] 59)) W.heap.size w.heap.size cB l 0 false := by
  have hr := run_bytes_of_string (P := Try.prog) w 9 23 5 ⟨l.toArray⟩ Try.underlying9 Try.underlying23 Try.underlying5
  have hsz : (⟨l.toArray⟩ : ByteArray).size = l.length := by show l.toArray.size = l.length; simp
  rw [hsz] at hr
  refine ⟨_, _, hr, (Below.refl _ _).drew.alloc (Nat.le_refl _) _, by simp, ?_⟩
  have hbR : ∀ o, ((w.drew.alloc (.cells (bytesRow ⟨l.toArray⟩ (grownCap w l.length 0 5)) 5 o)).alloc (.cells #[.slice (some ⟨w.heap.size, 0, none⟩) l.length (grownCap w l.length 0 5), .int .i64 0, .bool false] 59)).heap[w.heap.size]? = some (.cells (bytesRow ⟨l.toArray⟩ (grownCap w l.length 0 5)) 5 o) := by
    intro o
    rw [Below.heap_alloc _ _ _ (by simp)]
    exact heap_alloc_new w.drew _
  refine ⟨Blk.new _ _ _, ⟨_, _, hbR _, by simp, fun j hj => ?_⟩, Nat.zero_le _, grownCap_ge w _ 0 _, hl⟩
  rw [bytesRow_at _ _ j (by simpa using hj)]
  simp

set_option maxRecDepth 100000 in
set_option maxHeartbeats 4000000 in
theorem reads_few (v v2 : Value) (l : List UInt8) (ls : List (Int × Int)) (w : World) (hs : Sl w v l) (hp : Stp w v2 ls) (hl : l.length ≤ 9000) (hn : ls.length ≤ 300) :
    Calls Try.prog 6 #[v, v2] w fun e w' => e = .returned (.bool true) ∧ Below w.heap.size w w' := by
  have hs' := hs
  have hp' := hp
  obtain ⟨A, c, rfl, hc, ha⟩ := hs
  obtain ⟨A2, c2, rfl, hc2, ha2⟩ := hp
  clear ha ha2
  have h1 : ¬ (9000 : Int) < (l.length : Int) := by omega
  have h2 : ¬ (300 : Int) < (ls.length : Int) := by omega
  have hcv := conv_any hs'
  go_enter Try.func6, Try.ntmps6
  go_wp2_with fail
  refine (read_any _ l _ hs' (by omega)).mono ?_
  rintro e w1 ⟨g, rfl, hg1, hr1, hb1⟩
  clear hcv
  obtain ⟨cB, W, hcv, hbW, hlt, hRR⟩ := conv_ref l w1 hl
  have hWS : WS w.heap.size w1 g (some l) := hr1
  have hbA : Below w1.heap.size w1 (W.alloc (.cells #[.slice (some ⟨w1.heap.size, 0, none⟩) l.length cB, .int .i64 0, .bool false] 59)) := hbW.alloc hbW.size _
  have hWS2 := hWS.below hbA
  have hb2 := hb1.trans (hbA.mono hb1.size)
  have hhB : w.heap.size ≤ W.heap.size := Nat.le_trans hb1.size hbW.size
  have J0 : JS w.heap.size (W.alloc (.cells #[.slice (some ⟨w1.heap.size, 0, none⟩) l.length cB, .int .i64 0, .bool false] 59)) g W.heap.size w1.heap.size cB l := .inr ⟨0, hRR, hWS2⟩
  clear hRR hWS hWS2 hr1 hbA hbW hb1
  go_wp2
  clear hcv
  have hgB : w.heap.size ≤ g := hg1
  generalize W.alloc (.cells #[.slice (some ⟨w1.heap.size, 0, none⟩) l.length cB, .int .i64 0, .bool false] 59) = W2 at J0 hb2 ⊢
  generalize W.heap.size = h at J0 hhB hlt ⊢
  generalize w1.heap.size = bb at J0 hg1 hlt ⊢
  obtain ⟨str, hstr⟩ : ∃ t : ByteArray, (⟨l.toArray⟩ : ByteArray) = t := ⟨_, rfl⟩
  rw [hstr]
  have Hstr := Lib.hid hstr
  clear hstr hlt hg1
  go_loopw [8] (fun z wr => ∃ k : Nat, k ≤ ls.length ∧ z = .int .i64 (k : Int) ∧ JS w.heap.size wr g h bb cB l ∧ Below w.heap.size w wr) (fun z _ => ls.length - (intOf z).toNat)
  case atStart => exact ⟨0, Nat.zero_le _, rfl, J0, hb2⟩
  case round =>
    clear J0 hb2
    obtain ⟨k, hk, rfl, J, hb⟩ := hrel
    by_cases hlk : k < ls.length
    · obtain ⟨A', c', e, _, ha⟩ := hp'.below hb
      injection e with e1 e2 e3
      subst e1 e3
      obtain ⟨b, o, rfl, hx⟩ := ha (by omega)
      have hbb : b < w.heap.size := by
        obtain ⟨A'', c'', e', _, ha'⟩ := hp'
        injection e' with e1' e2' e3'
        obtain ⟨b', o', e'', hx'⟩ := ha' (by omega)
        rw [← e1'] at e''
        injection e'' with e''
        injection e'' with e''
        subst e''
        exact World.block_lt_of_cell? w _ (hx' 0 (by omega)).1
      have hcc : wr.drew.cell? ⟨b, o + 2 * k, none⟩ = some (.int .i64 ls[k].1) ∧ wr.drew.cell? ⟨b, o + 2 * k + 1, none⟩ = some (.int .i64 ls[k].2) := hx k hlk
      have hBw : w.heap.size ≤ wr.drew.heap.size := hb.size
      have J : JS w.heap.size wr.drew g h bb cB l := by have := J.drewN 1; exact this
      clear hx ha
      go_wp2
      refine wp_region_held_drew (S := fun w' => w'.cell? ⟨b, o + 2 * k, none⟩ = some (.int .i64 ls[k].1) ∧ w'.cell? ⟨b, o + 2 * k + 1, none⟩ = some (.int .i64 ls[k].2)) (by kernel_rfl) hcc (fun _ => ?_)
      refine' wpAnyH_take (i := 0) (oi := ⟨some 34, _, _, _, _, _⟩) (v := _) rfl (by kernel_rfl) (by kernel_rfl) (by kernel_rfl) (fun _ _ _ h => h) (Or.inl ⟨by rfl, ?y0⟩) hcc ?r0
      case y0 => (intro w' hSw; go_simp; try rfl)
      try simp only [Act.put, List.setIfInBounds_toArray, List.set_cons_zero, List.set_cons_succ]
      refine' wpAnyH_take (i := 1) (oi := ⟨some 35, _, _, _, _, _⟩) (v := _) rfl (by kernel_rfl) (by kernel_rfl) (by kernel_rfl) (fun _ _ _ h => h) (Or.inl ⟨by rfl, ?y1⟩) hcc ?r1
      case y1 => (intro w' hSw; go_simp; try rfl)
      try simp only [Act.put, List.setIfInBounds_toArray, List.set_cons_zero, List.set_cons_succ]
      refine' wpAnyH_take (i := 2) (oi := ⟨some 36, _, _, _, _, _⟩) (v := _) rfl (by kernel_rfl) (by kernel_rfl) (by kernel_rfl) (fun _ _ _ h => h) (Or.inl ⟨by rfl, ?y2⟩) hcc ?r2
      case y2 => (intro w' hSw; go_simp; try rfl)
      try simp only [Act.put, List.setIfInBounds_toArray, List.set_cons_zero, List.set_cons_succ]
      refine' wpAnyH_take (i := 3) (oi := ⟨some 37, _, _, _, _, _⟩) (v := _) rfl (by kernel_rfl) (by kernel_rfl) (by kernel_rfl) (fun _ _ _ h => h) (Or.inl ⟨by rfl, ?y3⟩) hcc ?r3
      case y3 => (intro w' hSw; go_simp; try rfl)
      try simp only [Act.put, List.setIfInBounds_toArray, List.set_cons_zero, List.set_cons_succ]
      refine' wpAnyH_take (i := 4) (oi := ⟨some 38, _, _, _, _, _⟩) (v := .pointer (some ⟨b, o + 2 * k, none⟩)) rfl (by kernel_rfl) (by kernel_rfl) (by kernel_rfl) (fun _ _ _ h => h) (Or.inl ⟨by rfl, ?y4⟩) hcc ?r4
      case y4 => (intro w' hSw; go_simp; try rfl)
      try simp only [Act.put, List.setIfInBounds_toArray, List.set_cons_zero, List.set_cons_succ]
      refine' wpAnyH_take (i := 5) (oi := ⟨some 39, _, _, _, _, _⟩) (v := _) rfl (by kernel_rfl) (by kernel_rfl) (by kernel_rfl) (fun _ _ _ h => h) (Or.inl ⟨by rfl, ?y5⟩) hcc ?r5
      case y5 => (intro w' hSw; have e0 := hSw.1; have e1 := hSw.2; go_simp; try rfl)
      try simp only [Act.put, List.setIfInBounds_toArray, List.set_cons_zero, List.set_cons_succ]
      refine held_one (i := 6) (by kernel_rfl) rfl (fun K hK => ?_)
      go_simp
      refine (step_any ls[k].1 ls[k].2 hBw hgB hhB J).mono ?_
      rintro e w3 ⟨rfl, J3, hb3⟩
      have hcc3 : w3.cell? ⟨b, o + 2 * k, none⟩ = some (.int .i64 ls[k].1) ∧ w3.cell? ⟨b, o + 2 * k + 1, none⟩ = some (.int .i64 ls[k].2) := ⟨(hb3.cell hbb).trans hcc.1, (hb3.cell hbb).trans hcc.2⟩
      have hb4 := hb.drew.trans hb3
      clear hb hb3 J hcc
      refine hK.out _ _ hcc3 (fun _ => ?_)
      clear hK K
      obtain ⟨X, Y, F, K3⟩ := J3.looks
      refine wpAnyH_more (S' := fun w' => ∃ n, w' = w3.drewN n) (fun w' ⟨n, hw⟩ => by rw [hw]; exact hcc3) _ _ _ _ ?_
      clear hcc3
      have e3 : w3 = w3.drewN 0 := by simp [World.drewN]
      rw [e3]
      have HJ := Lib.hid J3
      have HB := Lib.hid hb4
      clear J3 hb4 e3
      refine' wpAnyH_take (i := 7) (oi := ⟨some 41, _, _, _, _, _⟩) (v := _) rfl (by kernel_rfl) (by kernel_rfl) (by kernel_rfl) (fun _ _ _ h => h) (Or.inl ⟨by rfl, ?y7⟩) ⟨0, rfl⟩ ?r7
      case y7 => (intro w' hSw; go_simp; try rfl)
      try simp only [Act.put, List.setIfInBounds_toArray, List.set_cons_zero, List.set_cons_succ]
      refine' wpAnyH_take (i := 8) (oi := ⟨some 42, _, _, _, _, _⟩) (v := _) rfl (by kernel_rfl) (by kernel_rfl) (by kernel_rfl) (fun _ _ _ h => h) (Or.inl ⟨by rfl, ?y8⟩) ⟨0, rfl⟩ ?r8
      case y8 => (intro w' hSw; go_simp; try rfl)
      try simp only [Act.put, List.setIfInBounds_toArray, List.set_cons_zero, List.set_cons_succ]
      refine' wpAnyH_take (i := 9) (oi := ⟨some 43, _, _, _, _, _⟩) (v := _) rfl (by kernel_rfl) (by kernel_rfl) (by kernel_rfl) (fun _ _ _ h => h) (Or.inl ⟨by rfl, ?y9⟩) ⟨0, rfl⟩ ?r9
      case y9 => (intro w' hSw; go_simp; try rfl)
      try simp only [Act.put, List.setIfInBounds_toArray, List.set_cons_zero, List.set_cons_succ]
      refine' wpAnyH_take (i := 11) (oi := ⟨some 45, _, _, _, _, _⟩) (v := _) rfl (by kernel_rfl) (by kernel_rfl) (by kernel_rfl) (fun _ _ _ h => h) (Or.inl ⟨by rfl, ?y11⟩) ⟨0, rfl⟩ ?r11
      case y11 => (intro w' hSw; go_simp; try rfl)
      try simp only [Act.put, List.setIfInBounds_toArray, List.set_cons_zero, List.set_cons_succ]
      refine held_one (i := 10) (by kernel_rfl) rfl (fun K hK => ?_)
      go_simp
      refine (K3.left _).mono ?_
      rintro e w' ⟨rfl, n1, rfl⟩
      refine hK.out _ _ ⟨n1, rfl⟩ (fun _ => ?_)
      clear hK K
      refine held_one (i := 12) (by kernel_rfl) rfl (fun K hK => ?_)
      go_simp
      refine (K3.left2 _).mono ?_
      rintro e w' ⟨rfl, n2, rfl⟩
      refine hK.out _ _ ⟨n2, rfl⟩ (fun _ => ?_)
      clear hK K
      refine' wpAnyH_take (i := 13) (oi := ⟨some 47, _, _, _, _, _⟩) (v := _) rfl (by kernel_rfl) (by kernel_rfl) (by kernel_rfl) (fun _ _ _ h => h) (Or.inl ⟨by rfl, ?y13⟩) ⟨n2, rfl⟩ ?r13
      case y13 => (intro w' hSw; go_simp; try rfl)
      try simp only [Act.put, List.setIfInBounds_toArray, List.set_cons_zero, List.set_cons_succ]
      refine' wpAnyH_take (i := 14) (oi := ⟨some 48, _, _, _, _, _⟩) (v := _) rfl (by kernel_rfl) (by kernel_rfl) (by kernel_rfl) (fun _ _ _ h => h) (Or.inl ⟨by rfl, ?y14⟩) ⟨n2, rfl⟩ ?r14
      case y14 => (intro w' hSw; go_simp; try rfl)
      try simp only [Act.put, List.setIfInBounds_toArray, List.set_cons_zero, List.set_cons_succ]
      refine' wpAnyH_take (i := 15) (oi := ⟨some 49, _, _, _, _, _⟩) (v := _) rfl (by kernel_rfl) (by kernel_rfl) (by kernel_rfl) (fun _ _ _ h => h) (Or.inl ⟨by rfl, ?y15⟩) ⟨n2, rfl⟩ ?r15
      case y15 => (intro w' hSw; go_simp; try rfl)
      try simp only [Act.put, List.setIfInBounds_toArray, List.set_cons_zero, List.set_cons_succ]
      refine' wpAnyH_take (i := 16) (oi := ⟨some 50, _, _, _, _, _⟩) (v := _) rfl (by kernel_rfl) (by kernel_rfl) (by kernel_rfl) (fun _ _ _ h => h) (Or.inl ⟨by rfl, ?y16⟩) ⟨n2, rfl⟩ ?r16
      case y16 => (intro w' hSw; go_simp; try rfl)
      try simp only [Act.put, List.setIfInBounds_toArray, List.set_cons_zero, List.set_cons_succ]
      refine' wpAnyH_take (i := 18) (oi := ⟨some 52, _, _, _, _, _⟩) (v := _) rfl (by kernel_rfl) (by kernel_rfl) (by kernel_rfl) (fun _ _ _ h => h) (Or.inl ⟨by rfl, ?y18⟩) ⟨n2, rfl⟩ ?r18
      case y18 => (intro w' hSw; go_simp; try rfl)
      try simp only [Act.put, List.setIfInBounds_toArray, List.set_cons_zero, List.set_cons_succ]
      refine' wpAnyH_take (i := 19) (oi := ⟨some 53, _, _, _, _, _⟩) (v := _) rfl (by kernel_rfl) (by kernel_rfl) (by kernel_rfl) (fun _ _ _ h => h) (Or.inl ⟨by rfl, ?y19⟩) ⟨n2, rfl⟩ ?r19
      case y19 => (intro w' hSw; go_simp; try rfl)
      try simp only [Act.put, List.setIfInBounds_toArray, List.set_cons_zero, List.set_cons_succ]
      refine' wpAnyH_take (i := 20) (oi := ⟨some 54, _, _, _, _, _⟩) (v := _) rfl (by kernel_rfl) (by kernel_rfl) (by kernel_rfl) (fun _ _ _ h => h) (Or.inl ⟨by rfl, ?y20⟩) ⟨n2, rfl⟩ ?r20
      case y20 => (intro w' hSw; go_simp; try rfl)
      try simp only [Act.put, List.setIfInBounds_toArray, List.set_cons_zero, List.set_cons_succ]
      refine' wpAnyH_take (i := 21) (oi := ⟨some 55, _, _, _, _, _⟩) (v := _) rfl (by kernel_rfl) (by kernel_rfl) (by kernel_rfl) (fun _ _ _ h => h) (Or.inl ⟨by rfl, ?y21⟩) ⟨n2, rfl⟩ ?r21
      case y21 => (intro w' hSw; obtain ⟨nn, rfl⟩ := hSw; have q21 := K3.failed2 nn; go_simp; try rfl)
      try simp only [Act.put, List.setIfInBounds_toArray, List.set_cons_zero, List.set_cons_succ]
      refine held_one (i := 17) (by kernel_rfl) rfl (fun K hK => ?_)
      go_simp
      refine (K3.failed _).mono ?_
      rintro e w' ⟨rfl, n3, rfl⟩
      refine hK.out _ _ ⟨n3, rfl⟩ (fun _ => ?_)
      clear hK K
      refine' wpAnyH_take (i := 22) (oi := ⟨some 56, _, _, _, _, _⟩) (v := _) rfl (by kernel_rfl) (by kernel_rfl) (by kernel_rfl) (fun _ _ _ h => h) (Or.inl ⟨by rfl, ?y22⟩) ⟨n3, rfl⟩ ?r22
      case y22 => (intro w' hSw; go_simp; try rfl)
      try simp only [Act.put, List.setIfInBounds_toArray, List.set_cons_zero, List.set_cons_succ]
      refine' wpAnyH_take (i := 23) (oi := ⟨some 57, _, _, _, _, _⟩) (v := _) rfl (by kernel_rfl) (by kernel_rfl) (by kernel_rfl) (fun _ _ _ h => h) (Or.inl ⟨by rfl, ?y23⟩) ⟨n3, rfl⟩ ?r23
      case y23 => (intro w' hSw; go_simp; try rfl)
      try simp only [Act.put, List.setIfInBounds_toArray, List.set_cons_zero, List.set_cons_succ]
      refine' wpAnyH_take (i := 24) (oi := ⟨some 58, _, _, _, _, _⟩) (v := _) rfl (by kernel_rfl) (by kernel_rfl) (by kernel_rfl) (fun _ _ _ h => h) (Or.inl ⟨by rfl, ?y24⟩) ⟨n3, rfl⟩ ?r24
      case y24 => (intro w' hSw; go_simp; try rfl)
      try simp only [Act.put, List.setIfInBounds_toArray, List.set_cons_zero, List.set_cons_succ]
      refine' wpAnyH_take (i := 25) (oi := ⟨some 59, _, _, _, _, _⟩) (v := _) rfl (by kernel_rfl) (by kernel_rfl) (by kernel_rfl) (fun _ _ _ h => h) (Or.inl ⟨by rfl, ?y25⟩) ⟨n3, rfl⟩ ?r25
      case y25 => (intro w' hSw; go_simp; try rfl)
      try simp only [Act.put, List.setIfInBounds_toArray, List.set_cons_zero, List.set_cons_succ]
      refine' wpAnyH_take (i := 28) (oi := ⟨some 62, _, _, _, _, _⟩) (v := _) rfl (by kernel_rfl) (by kernel_rfl) (by kernel_rfl) (fun _ _ _ h => h) (Or.inl ⟨by rfl, ?y28⟩) ⟨n3, rfl⟩ ?r28
      case y28 => (intro w' hSw; go_simp; try rfl)
      try simp only [Act.put, List.setIfInBounds_toArray, List.set_cons_zero, List.set_cons_succ]
      refine held_one (i := 26) (by kernel_rfl) rfl (fun K hK => ?_)
      go_simp
      refine (K3.end_ _).mono ?_
      rintro e w' ⟨rfl, n4, rfl⟩
      refine hK.out _ _ ⟨n4, rfl⟩ (fun _ => ?_)
      clear hK K
      refine held_one (i := 27) (by kernel_rfl) rfl (fun K hK => ?_)
      go_simp
      refine (num_any _ _).mono ?_
      rintro e w' ⟨rfl, rfl⟩
      refine hK.out _ _ ⟨n4, rfl⟩ (fun _ => ?_)
      clear hK K
      refine held_one (i := 29) (by kernel_rfl) rfl (fun K hK => ?_)
      go_simp
      refine (K3.end2 _).mono ?_
      rintro e w' ⟨rfl, n5, rfl⟩
      refine hK.out _ _ ⟨n5, rfl⟩ (fun _ => ?_)
      clear hK K
      refine' wpAnyH_take (i := 30) (oi := ⟨some 64, _, _, _, _, _⟩) (v := _) rfl (by kernel_rfl) (by kernel_rfl) (by kernel_rfl) (fun _ _ _ h => h) (Or.inl ⟨by rfl, ?y30⟩) ⟨n5, rfl⟩ ?r30
      case y30 => (intro w' hSw; go_simp; try rfl)
      try simp only [Act.put, List.setIfInBounds_toArray, List.set_cons_zero, List.set_cons_succ]
      refine' wpAnyH_take (i := 31) (oi := ⟨some 65, _, _, _, _, _⟩) (v := _) rfl (by kernel_rfl) (by kernel_rfl) (by kernel_rfl) (fun _ _ _ h => h) (Or.inl ⟨by rfl, ?y31⟩) ⟨n5, rfl⟩ ?r31
      case y31 => (intro w' hSw; go_simp; try rfl)
      try simp only [Act.put, List.setIfInBounds_toArray, List.set_cons_zero, List.set_cons_succ]
      refine wpAnyH_done (by kernel_rfl) ?_ _
      clear K3
      go_wp2_with fail
      go_roundw
      case rel => exact ⟨k + 1, by omega, by go_num, HJ.out.drewN n5, below_drewN HB.out n5⟩
      case measure => simp [intOf]; omega
    · obtain rfl : k = ls.length := by omega
      have hcv := conv_mk2 (hs'.below hb) Hstr.out
      go_wp2_with (go_at_call 9; refine (known_any _).mono ?_; rintro e w5 ⟨rfl, hb8⟩)
      go_ret
      exact ⟨rfl, hb.trans (hb8.mono hb.size)⟩
end Go.Proofs.Yteneicngmglgbaa.RB

/-
  The walk of Rename.
-/
import Derived.Test.YtdbkhigocjmfoaaDskRen1
import Derived.Test.YtdbkhigocjmfoaaCtxStill
import Derived.Deep.DeepCutAuto
namespace Go.Proofs.Ytdbkhigocjmfoaa
open Go.RowKit Go.Maps
open DskM
set_option linter.unusedVariables false
set_option linter.unusedSimpArgs false
set_option maxRecDepth 20000

theorem keeps_far {w X : World} (k : Keeps w X) {g : Nat} (hg : w.heap.size ≤ g) (v : Value) : Keeps w (X.setCell ⟨g, 0, none⟩ v) := fun p u hu => by
  have hp := World.block_lt_of_cell? w p hu
  have h1 := k p u hu
  have h2 : Below g X (X.setCell ⟨g, 0, none⟩ v) := (Below.refl g X).setCell (p := ⟨g, 0, none⟩) (Nat.le_refl _) v
  exact (World.cell?_of_block (h2.block p.block (by omega))).trans h1
section
variable {w w' W W' : World} {p m : Nat} {S S' : Ds} {L : List Fo} {B : Nat}
set_option maxHeartbeats 8000000 in
theorem ren_mid (PD : Option Addr) (s t : ByteArray) (PP : Option Addr) (c : Int) (hc : c = 0 ∨ c = 2 ∨ c = 6 ∨ c = 1)
    (hfi : ∀ X, Below w.heap.size w X → Calls Try.prog 52 #[.pointer PD, .string s, .bool (mayB t.data.toList)] X fun e X' => e = .returned (.tuple #[.pointer PP, .int .i64 c]) ∧ Below X.heap.size X X')
    (Q : Ending → World → Prop) (hbad : c ≠ 0 → ∀ X, Below w.heap.size w X → Q (.returned (.int .i64 c)) X)
    (hgood : c = 0 → ∀ X g, Below w.heap.size w X → w.heap.size ≤ g → Blk X w.heap.size 23 #[.pointer PD] → Blk X (w.heap.size + 1) 9 #[.string s] → Blk X (w.heap.size + 2) 9 #[.string t] → Blk X g 75 #[.pointer PP] →
      ∃ r : Value, Calls Try.prog 54 #[.pointer PD, .func (.func 55) #[] #[.pointer (some ⟨w.heap.size, 0, none⟩), .pointer (some ⟨w.heap.size + 1, 0, none⟩), .pointer (some ⟨g, 0, none⟩), .pointer (some ⟨w.heap.size + 2, 0, none⟩)], .func (.func 56) #[] #[]] X fun e X' => e = .returned r ∧ Q (.returned r) X') :
    Calls Try.prog 27 #[.pointer PD, .string s, .string t] w Q := by
  have hfo : Try.prog.follows .mixedOrders = true := by kernel_rfl
  obtain ⟨W0, hW0⟩ : ∃ W0, W0 = ((w.alloc (.cells #[.pointer PD] 23)).alloc (.cells #[.string s] 9)).alloc (.cells #[.string t] 9) := ⟨_, rfl⟩
  have hb0 : Below w.heap.size w W0 := by
    rw [hW0]
    exact (((Below.refl _ _).alloc (Nat.le_refl _) _).alloc (by simp) _).alloc (by simp; omega) _
  have hB1 : Blk W0 w.heap.size 23 #[.pointer PD] := by
    rw [hW0]; exact ((Blk.new w 23 #[.pointer PD]).alloc _).alloc _
  have hB2 : Blk W0 (w.heap.size + 1) 9 #[.string s] := by
    have e := (Blk.new (w.alloc (.cells #[.pointer PD] 23)) 9 #[.string s]).alloc (.cells #[.string t] 9)
    rw [hW0]; simpa using e
  have hB3 : Blk W0 (w.heap.size + 2) 9 #[.string t] := by
    have e := Blk.new ((w.alloc (.cells #[.pointer PD] 23)).alloc (.cells #[.string s] 9)) 9 #[.string t]
    rw [hW0]; simpa using e
  have hz0 : W0.heap.size = w.heap.size + 3 := by rw [hW0]; simp
  have cd : W0.cell? ⟨w.heap.size, 0, none⟩ = some (.pointer PD) := by rw [hB1.cell]; rfl
  have cn : W0.cell? ⟨w.heap.size + 1, 0, none⟩ = some (.string s) := by rw [hB2.cell]; rfl
  have ct : W0.cell? ⟨w.heap.size + 2, 0, none⟩ = some (.string t) := by rw [hB3.cell]; rfl
  have hN := Lib.hid (mayName_any t)
  have hF := Lib.hid hfi
  have hBAD := Lib.hid hbad
  have hGOOD := Lib.hid hgood
  have HZ := Lib.hid hz0
  have HBB := Lib.hid (And.intro hB1 (And.intro hB2 hB3))
  have HB0 := Lib.hid hb0
  have HC := Lib.hid hc
  clear hfi hbad hgood hz0 hB1 hB2 hB3 hb0 hc
  go_enter Try.func27, Try.ntmps27
  go_upto_region 1 with fail
  rw [← hW0]
  go_cut [7, 8] from 10 (fun x y wc => ∃ g, x = .pointer (some ⟨g, 0, none⟩) ∧ y = .int .i64 c ∧ Blk wc g 75 #[.pointer PP] ∧ w.heap.size + 3 ≤ g ∧ Below W0.heap.size W0 wc)
  case first =>
    clear hW0
    have cd : W0.drew.cell? ⟨w.heap.size, 0, none⟩ = some (.pointer PD) := cd
    have cn : W0.drew.cell? ⟨w.heap.size + 1, 0, none⟩ = some (.string s) := cn
    have ct : W0.drew.cell? ⟨w.heap.size + 2, 0, none⟩ = some (.string t) := ct
    have hb2 : Below W0.heap.size W0 W0.drew := (Below.refl _ _).drew
    have hd2 := HB0.out.trans (hb2.mono HB0.out.size)
    have hz2 : W0.drew.heap.size = W0.heap.size := rfl
    refine wp_region_held_drew (S := fun w' => Keeps W0.drew w') hfo (Keeps.refl _) (fun k0 => ?_)
    have HB2 := Lib.hid hb2
    have HW2 := Lib.hid hd2
    have HZ2 := Lib.hid hz2
    clear hb2 hd2 hz2
    generalize W0.drew = W2 at k0 cd cn ct HB2 HW2 HZ2 ⊢
    have b0 := Below.refl W2.heap.size W2
    refine' wpAnyH_take (i := 0) (oi := ⟨some 11, _, _, _, _, _⟩) (v := _) rfl (by kernel_rfl) (by kernel_rfl) (by kernel_rfl) (fun _ _ _ h => h) (Or.inl ⟨by rfl, ?y0⟩) k0 ?r0
    case y0 => (intro w' hSw; have e := hSw _ _ cd; go_simp; try rfl)
    try simp only [Act.put, List.setIfInBounds_toArray, List.set_cons_zero, List.set_cons_succ]
    refine' wpAnyH_take (i := 1) (oi := ⟨some 12, _, _, _, _, _⟩) (v := _) rfl (by kernel_rfl) (by kernel_rfl) (by kernel_rfl) (fun _ _ _ h => h) (Or.inl ⟨by rfl, ?y1⟩) k0 ?r1
    case y1 => (intro w' hSw; have e := hSw _ _ cn; go_simp; try rfl)
    try simp only [Act.put, List.setIfInBounds_toArray, List.set_cons_zero, List.set_cons_succ]
    refine' wpAnyH_take (i := 2) (oi := ⟨some 13, _, _, _, _, _⟩) (v := _) rfl (by kernel_rfl) (by kernel_rfl) (by kernel_rfl) (fun _ _ _ h => h) (Or.inl ⟨by rfl, ?y2⟩) k0 ?r2
    case y2 => (intro w' hSw; have e := hSw _ _ ct; go_simp; try rfl)
    try simp only [Act.put, List.setIfInBounds_toArray, List.set_cons_zero, List.set_cons_succ]
    refine held_two (i := 3) (j := 8) (by kernel_rfl) rfl rfl (fun K hK => ?_) (fun K hK => ?_)
    · go_simp
      refine (hN.out W2).mono ?_
      rintro e Wmp ⟨rfl, hmp⟩
      have kmp := k0.trans (Keeps.of_below hmp)
      have bmp := b0.trans (hmp.mono b0.size)
      refine hK.out _ _ kmp (fun _ => ?_)
      clear hK K
      try simp only [Act.put, List.setIfInBounds_toArray, List.set_cons_zero, List.set_cons_succ]
      refine held_two (i := 4) (j := 8) (by kernel_rfl) rfl rfl (fun K hK => ?_) (fun K hK => ?_)
      · go_simp
        refine (hF.out Wmp (HW2.out.trans (bmp.mono HW2.out.size))).mono ?_
        rintro e Wfpp ⟨rfl, hfpp⟩
        have kfpp := kmp.trans (Keeps.of_below hfpp)
        have bfpp := bmp.trans (hfpp.mono bmp.size)
        refine hK.out _ _ kfpp (fun _ => ?_)
        clear hK K
        try simp only [Act.put, List.setIfInBounds_toArray, List.set_cons_zero, List.set_cons_succ]
        refine' wpAnyH_take (i := 5) (oi := ⟨some 10, _, _, _, _, _⟩) (v := _) rfl (by kernel_rfl) (by kernel_rfl) (by kernel_rfl) (fun _ _ _ h => h) (Or.inl ⟨by rfl, ?y5pp⟩) kfpp ?r5pp
        case y5pp => (intro w' hSw; go_simp; try rfl)
        try simp only [Act.put, List.setIfInBounds_toArray, List.set_cons_zero, List.set_cons_succ]
        refine' wpAnyH_take (i := 6) (oi := ⟨some 16, _, _, _, _, _⟩) (v := _) rfl (by kernel_rfl) (by kernel_rfl) (by kernel_rfl) (fun _ _ _ h => h) (Or.inl ⟨by rfl, ?y6pp⟩) kfpp ?r6pp
        case y6pp => (intro w' hSw; go_simp; try rfl)
        try simp only [Act.put, List.setIfInBounds_toArray, List.set_cons_zero, List.set_cons_succ]
        refine' wpAnyH_take (i := 7) (oi := ⟨some 17, _, _, _, _, _⟩) (v := _) rfl (by kernel_rfl) (by kernel_rfl) (by kernel_rfl) (fun _ _ _ h => h) (Or.inl ⟨by rfl, ?y7pp⟩) kfpp ?r7pp
        case y7pp => (intro w' hSw; go_simp; try rfl)
        try simp only [Act.put, List.setIfInBounds_toArray, List.set_cons_zero, List.set_cons_succ]
        refine held_one (i := 8) (by kernel_rfl) rfl (fun K hK => ?_)
        go_simp
        have kapp := kfpp.trans (Keeps.of_below ((Below.refl Wfpp.heap.size Wfpp).alloc (Nat.le_refl _) (.cells #[.pointer none] 75)))
        have bapp := bfpp.alloc bfpp.size (.cells #[.pointer none] 75)
        have hgapp := Blk.new Wfpp 75 #[.pointer none]
        have hzapp : W2.heap.size ≤ Wfpp.heap.size := bfpp.size
        refine hK.out _ _ kapp (fun _ => ?_)
        clear hK K
        try simp only [Act.put, List.setIfInBounds_toArray, List.set_cons_zero, List.set_cons_succ]
        skip
        refine held_one (i := 9) (by kernel_rfl) rfl (fun K hK => ?_)
        go_simp
        have hsetpp := Blk.new Wfpp 75 #[.pointer PP]
        have k9pp : Keeps W2 (Wfpp.alloc (.cells #[.pointer PP] 75)) := kfpp.trans (Keeps.of_below ((Below.refl Wfpp.heap.size Wfpp).alloc (Nat.le_refl _) _))
        have b9pp : Below W2.heap.size W2 (Wfpp.alloc (.cells #[.pointer PP] 75)) := bfpp.alloc bfpp.size _
        refine hK.out _ _ k9pp (fun _ => ?_)
        clear hK K
        try simp only [Act.put, List.setIfInBounds_toArray, List.set_cons_zero, List.set_cons_succ]
        refine held_one (i := 10) (by kernel_rfl) rfl (fun K hK => ?_)
        go_simp
        refine hK.out _ _ k9pp (fun _ => ?_)
        clear hK K
        try simp only [Act.put, List.setIfInBounds_toArray, List.set_cons_zero, List.set_cons_succ]
        refine wpAnyH_done (by kernel_rfl) ?_ _
        go_wp2_with fail
        go_meet
        exact ⟨Wfpp.heap.size, rfl, rfl, hsetpp, by have := HZ.out; have := HZ2.out; have := hzapp; omega, HB2.out.trans (b9pp.mono HB2.out.size)⟩
      · go_simp
        have kapq := kmp.trans (Keeps.of_below ((Below.refl Wmp.heap.size Wmp).alloc (Nat.le_refl _) (.cells #[.pointer none] 75)))
        have bapq := bmp.alloc bmp.size (.cells #[.pointer none] 75)
        have hgapq := Blk.new Wmp 75 #[.pointer none]
        have hzapq : W2.heap.size ≤ Wmp.heap.size := bmp.size
        refine hK.out _ _ kapq (fun _ => ?_)
        clear hK K
        try simp only [Act.put, List.setIfInBounds_toArray, List.set_cons_zero, List.set_cons_succ]
        skip
        refine held_one (i := 4) (by kernel_rfl) rfl (fun K hK => ?_)
        go_simp
        refine (hF.out (Wmp.alloc (.cells #[.pointer none] 75)) (HW2.out.trans (bapq.mono HW2.out.size))).mono ?_
        rintro e Wfpq ⟨rfl, hfpq⟩
        have kfpq := kapq.trans (Keeps.of_below hfpq)
        have bfpq := bapq.trans (hfpq.mono bapq.size)
        have hgfpq := hgapq.below hfpq hgapq.lt
        refine hK.out _ _ kfpq (fun _ => ?_)
        clear hK K
        try simp only [Act.put, List.setIfInBounds_toArray, List.set_cons_zero, List.set_cons_succ]
        refine' wpAnyH_take (i := 5) (oi := ⟨some 10, _, _, _, _, _⟩) (v := _) rfl (by kernel_rfl) (by kernel_rfl) (by kernel_rfl) (fun _ _ _ h => h) (Or.inl ⟨by rfl, ?y5pq⟩) kfpq ?r5pq
        case y5pq => (intro w' hSw; go_simp; try rfl)
        try simp only [Act.put, List.setIfInBounds_toArray, List.set_cons_zero, List.set_cons_succ]
        refine' wpAnyH_take (i := 6) (oi := ⟨some 16, _, _, _, _, _⟩) (v := _) rfl (by kernel_rfl) (by kernel_rfl) (by kernel_rfl) (fun _ _ _ h => h) (Or.inl ⟨by rfl, ?y6pq⟩) kfpq ?r6pq
        case y6pq => (intro w' hSw; go_simp; try rfl)
        try simp only [Act.put, List.setIfInBounds_toArray, List.set_cons_zero, List.set_cons_succ]
        refine' wpAnyH_take (i := 7) (oi := ⟨some 17, _, _, _, _, _⟩) (v := _) rfl (by kernel_rfl) (by kernel_rfl) (by kernel_rfl) (fun _ _ _ h => h) (Or.inl ⟨by rfl, ?y7pq⟩) kfpq ?r7pq
        case y7pq => (intro w' hSw; go_simp; try rfl)
        try simp only [Act.put, List.setIfInBounds_toArray, List.set_cons_zero, List.set_cons_succ]
        refine held_one (i := 9) (by kernel_rfl) rfl (fun K hK => ?_)
        have zfpq := hgfpq.frozen 0
        have zcpq : (Wfpq).cell? ⟨Wmp.heap.size, 0, none⟩ = some (.pointer none) := by rw [hgfpq.cell]; rfl
        go_simp
        have hsetpq := hgfpq.set_ 0 (.pointer PP)
        have k9pq : Keeps W2 ((Wfpq).setCell ⟨Wmp.heap.size, 0, none⟩ (.pointer PP)) := keeps_far kfpq hzapq _
        have b9pq : Below W2.heap.size W2 ((Wfpq).setCell ⟨Wmp.heap.size, 0, none⟩ (.pointer PP)) := bfpq.setCell (p := ⟨Wmp.heap.size, 0, none⟩) hzapq _
        refine hK.out _ _ k9pq (fun _ => ?_)
        clear hK K
        try simp only [Act.put, List.setIfInBounds_toArray, List.set_cons_zero, List.set_cons_succ]
        refine held_one (i := 10) (by kernel_rfl) rfl (fun K hK => ?_)
        go_simp
        refine hK.out _ _ k9pq (fun _ => ?_)
        clear hK K
        try simp only [Act.put, List.setIfInBounds_toArray, List.set_cons_zero, List.set_cons_succ]
        refine wpAnyH_done (by kernel_rfl) ?_ _
        go_wp2_with fail
        go_meet
        exact ⟨Wmp.heap.size, rfl, rfl, hsetpq, by have := HZ.out; have := HZ2.out; have := hzapq; omega, HB2.out.trans (b9pq.mono HB2.out.size)⟩
    · go_simp
      have kaq := k0.trans (Keeps.of_below ((Below.refl W2.heap.size W2).alloc (Nat.le_refl _) (.cells #[.pointer none] 75)))
      have baq := b0.alloc b0.size (.cells #[.pointer none] 75)
      have hgaq := Blk.new W2 75 #[.pointer none]
      have hzaq : W2.heap.size ≤ W2.heap.size := b0.size
      refine hK.out _ _ kaq (fun _ => ?_)
      clear hK K
      try simp only [Act.put, List.setIfInBounds_toArray, List.set_cons_zero, List.set_cons_succ]
      skip
      refine held_one (i := 3) (by kernel_rfl) rfl (fun K hK => ?_)
      go_simp
      refine (hN.out (W2.alloc (.cells #[.pointer none] 75))).mono ?_
      rintro e Wmq ⟨rfl, hmq⟩
      have kmq := kaq.trans (Keeps.of_below hmq)
      have bmq := baq.trans (hmq.mono baq.size)
      have hgmq := hgaq.below hmq hgaq.lt
      refine hK.out _ _ kmq (fun _ => ?_)
      clear hK K
      try simp only [Act.put, List.setIfInBounds_toArray, List.set_cons_zero, List.set_cons_succ]
      refine held_one (i := 4) (by kernel_rfl) rfl (fun K hK => ?_)
      go_simp
      refine (hF.out Wmq (HW2.out.trans (bmq.mono HW2.out.size))).mono ?_
      rintro e Wfq ⟨rfl, hfq⟩
      have kfq := kmq.trans (Keeps.of_below hfq)
      have bfq := bmq.trans (hfq.mono bmq.size)
      have hgfq := hgmq.below hfq hgmq.lt
      refine hK.out _ _ kfq (fun _ => ?_)
      clear hK K
      try simp only [Act.put, List.setIfInBounds_toArray, List.set_cons_zero, List.set_cons_succ]
      refine' wpAnyH_take (i := 5) (oi := ⟨some 10, _, _, _, _, _⟩) (v := _) rfl (by kernel_rfl) (by kernel_rfl) (by kernel_rfl) (fun _ _ _ h => h) (Or.inl ⟨by rfl, ?y5q⟩) kfq ?r5q
      case y5q => (intro w' hSw; go_simp; try rfl)
      try simp only [Act.put, List.setIfInBounds_toArray, List.set_cons_zero, List.set_cons_succ]
      refine' wpAnyH_take (i := 6) (oi := ⟨some 16, _, _, _, _, _⟩) (v := _) rfl (by kernel_rfl) (by kernel_rfl) (by kernel_rfl) (fun _ _ _ h => h) (Or.inl ⟨by rfl, ?y6q⟩) kfq ?r6q
      case y6q => (intro w' hSw; go_simp; try rfl)
      try simp only [Act.put, List.setIfInBounds_toArray, List.set_cons_zero, List.set_cons_succ]
      refine' wpAnyH_take (i := 7) (oi := ⟨some 17, _, _, _, _, _⟩) (v := _) rfl (by kernel_rfl) (by kernel_rfl) (by kernel_rfl) (fun _ _ _ h => h) (Or.inl ⟨by rfl, ?y7q⟩) kfq ?r7q
      case y7q => (intro w' hSw; go_simp; try rfl)
      try simp only [Act.put, List.setIfInBounds_toArray, List.set_cons_zero, List.set_cons_succ]
      refine held_one (i := 9) (by kernel_rfl) rfl (fun K hK => ?_)
      have zfq := hgfq.frozen 0
      have zcq : (Wfq).cell? ⟨W2.heap.size, 0, none⟩ = some (.pointer none) := by rw [hgfq.cell]; rfl
      go_simp
      have hsetq := hgfq.set_ 0 (.pointer PP)
      have k9q : Keeps W2 ((Wfq).setCell ⟨W2.heap.size, 0, none⟩ (.pointer PP)) := keeps_far kfq hzaq _
      have b9q : Below W2.heap.size W2 ((Wfq).setCell ⟨W2.heap.size, 0, none⟩ (.pointer PP)) := bfq.setCell (p := ⟨W2.heap.size, 0, none⟩) hzaq _
      refine hK.out _ _ k9q (fun _ => ?_)
      clear hK K
      try simp only [Act.put, List.setIfInBounds_toArray, List.set_cons_zero, List.set_cons_succ]
      refine held_one (i := 10) (by kernel_rfl) rfl (fun K hK => ?_)
      go_simp
      refine hK.out _ _ k9q (fun _ => ?_)
      clear hK K
      try simp only [Act.put, List.setIfInBounds_toArray, List.set_cons_zero, List.set_cons_succ]
      refine wpAnyH_done (by kernel_rfl) ?_ _
      go_wp2_with fail
      go_meet
      exact ⟨W2.heap.size, rfl, rfl, hsetq, by have := HZ.out; have := HZ2.out; have := hzaq; omega, HB2.out.trans (b9q.mono HB2.out.size)⟩
  case rest =>
    obtain ⟨g, rfl, rfl, hg, hgz, hb5⟩ := hcut
    have hb6 := HB0.out.trans (hb5.mono HB0.out.size)
    have hC1 := HBB.out.1.below hb5 HBB.out.1.lt
    have hC2 := HBB.out.2.1.below hb5 HBB.out.2.1.lt
    have hC3 := HBB.out.2.2.below hb5 HBB.out.2.2.lt
    have cd : wc.cell? ⟨w.heap.size, 0, none⟩ = some (.pointer PD) := by rw [hC1.cell]; rfl
    rcases HC.out with rfl | rfl | rfl | rfl
    · obtain ⟨r, hr⟩ := hGOOD.out rfl wc g hb6 (by omega) hC1 hC2 hC3 hg
      have HR := Lib.hid hr
      clear hr hC1 hC2 hC3 hg hb5 hb6 hW0
      go_wp2_with fail
      refine HR.out.mono ?_
      rintro e w5 ⟨rfl, hq⟩
      have HQ := Lib.hid hq
      clear hq HR
      go_wp2_with fail
      exact HQ.out
    · have HQ := Lib.hid (hBAD.out (by decide) wc hb6)
      clear hC1 hC2 hC3 hg hb5 hb6 hW0
      go_wp2
      exact HQ.out
    · have HQ := Lib.hid (hBAD.out (by decide) wc hb6)
      clear hC1 hC2 hC3 hg hb5 hb6 hW0
      go_wp2
      exact HQ.out
    · have HQ := Lib.hid (hBAD.out (by decide) wc hb6)
      clear hC1 hC2 hC3 hg hb5 hb6 hW0
      go_wp2
      exact HQ.out
end
end Go.Proofs.Ytdbkhigocjmfoaa

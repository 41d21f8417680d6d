/-
  The walk of Cut.
-/
import Derived.Test.YtibifnknkphanaaGreatDoorDskAppend
import Derived.Test.YtibifnknkphanaaGreatDoorHeldA
import Derived.Deep.QuietTactic
import Derived.BigQuiet
namespace Go.Proofs.YtibifnknkphanaaGreatDoor
open Go.RowKit Go.Maps
open DskM
set_option linter.unusedVariables false
set_option linter.unusedSimpArgs false
set_option maxRecDepth 20000

section
variable {w w' W : World} {p m : Nat} {S S' : Ds} {L : List Fo} {B : Nat}
theorem Own.pre {w : World} {base : Nat} {e : TypeId} {A : Option Addr} {n c : Nat} {l : List UInt8} (h : Own w base e (.slice A n c) l) (k : Nat) (hk : k ≤ n) : Own w base e (.slice A k c) (l.take k) := by
  have hn := h.sl.len
  have hkl : (l.take k).length = k := by rw [List.length_take]; omega
  unfold Own at *
  rw [hkl]
  refine ⟨by simp; omega, ?_⟩
  rcases h.2 with ⟨h1, h2⟩ | ⟨g, cap, cur, h1, h2, h3, h4, h5, h6, h7⟩
  · injection h1 with a1 a2 a3
    subst a1; subst a3
    exact .inl ⟨by rw [show k = 0 by omega], by omega⟩
  · injection h1 with a1 a2 a3
    subst a1; subst a3
    refine .inr ⟨g, c, cur, rfl, h2, h3, by omega, h5, h6, ?_⟩
    rw [Nat.mul_one] at h7 ⊢
    rw [List.map_take, ← h7, List.take_take]
    congr 1
    omega

set_option maxHeartbeats 4000000 in
theorem cut1_any (bf bn : Nat) (k mm : Nat) (f : Fo) (hf : f ∈ L) (hd : Dk W p m S L) (hBf : Blk W bf 108 #[.pointer (some ⟨f.g, 0, none⟩)]) (hBn : Blk W bn 3 #[.int .i64 (k : Int)]) (hk : k ≤ f.bs.length) (hB : B ≤ W.heap.size) (hmm : mm = min f.la k) :
    Calls Tryz.prog 147 #[.pointer (some ⟨bf, 0, none⟩), .pointer (some ⟨bn, 0, none⟩)] W fun e W' => e = .returned (.tuple #[]) ∧ Turn B W p m L S (setP (plain L) (f.nm, f.bs.take k, mm)) W' := by
  have hfo : Tryz.prog.follows .mixedOrders = true := by kernel_rfl
  have hfa := hd.file f hf
  have hla := hfa.la
  have hsh := hd.short hf
  have hrm := hd.room
  have hnr := hd.rf hf hf
  have cf : W.drew.cell? ⟨bf, 0, none⟩ = some (.pointer (some ⟨f.g, 0, none⟩)) := by rw [World.cell?_drew, hBf.cell]; rfl
  have cn : W.drew.cell? ⟨bn, 0, none⟩ = some (.int .i64 (k : Int)) := by rw [World.cell?_drew, hBn.cell]; rfl
  have q0 : W.drew.cell? ⟨f.g, 0, none⟩ = some f.v := by rw [World.cell?_drew]; exact hfa.c0
  have q1 : W.drew.cell? ⟨f.g, 1, none⟩ = some (.int .i64 (f.la : Int)) := by rw [World.cell?_drew]; exact hfa.c1
  have hBg : Blk W.drew f.g 110 (foc f) := hfa.blk.drew
  have z0 := hBg.frozen 0
  obtain ⟨A, n, c, hvv⟩ := hfa.row.shape
  have hvl := hfa.row.sl
  have hrow := hfa.row
  rw [hvv] at q0 hvl hrow
  obtain rfl : n = f.bs.length := hvl.len
  obtain ⟨A', c', e', hc', _⟩ := hvl
  have hcc : f.bs.length ≤ c := by injection e' with _ _ e3; omega
  have hkc : (k : Int) ≤ (c : Int) := by omega
  have hk0 : (0 : Int) ≤ (k : Int) := by omega
  have hkW : Below W.heap.size W W.drew := (Below.refl _ _).drew
  have hcb : c ≤ 9223372036854775807 := by
    rcases hrow.2 with ⟨h1, _⟩ | ⟨g, cap, cur, h1, _, _, _, h5, _⟩
    · injection h1 with _ _ a3; omega
    · injection h1 with _ _ a3; unfold maxLen at h5; omega
  -- the worlds behind the stores
  have hB1 := hBg.set_ 0 (.slice A k c)
  have hB2 := hB1.set_ 1 (.int .i64 (mm : Int))
  have hS3 : (W.drew.setCell ⟨f.g, 0, none⟩ (.slice A k c)).cell? ⟨bf, 0, none⟩ = some (.pointer (some ⟨f.g, 0, none⟩)) ∧ (W.drew.setCell ⟨f.g, 0, none⟩ (.slice A k c)).cell? ⟨bn, 0, none⟩ = some (.int .i64 (k : Int)) :=
    ⟨by rw [((Blk.drew hBf).far (hBf.ne_ hfa.blk (by decide)) _).cell]; rfl, by rw [((Blk.drew hBn).far (hBn.ne_ hfa.blk (by decide)) _).cell]; rfl⟩
  have hS4 : ((W.drew.setCell ⟨f.g, 0, none⟩ (.slice A k c)).setCell ⟨f.g, 1, none⟩ (.int .i64 (mm : Int))).cell? ⟨bf, 0, none⟩ = some (.pointer (some ⟨f.g, 0, none⟩)) ∧ ((W.drew.setCell ⟨f.g, 0, none⟩ (.slice A k c)).setCell ⟨f.g, 1, none⟩ (.int .i64 (mm : Int))).cell? ⟨bn, 0, none⟩ = some (.int .i64 (k : Int)) :=
    ⟨by rw [(((Blk.drew hBf).far (hBf.ne_ hfa.blk (by decide)) _).far (hBf.ne_ hfa.blk (by decide)) _).cell]; rfl, by rw [(((Blk.drew hBn).far (hBn.ne_ hfa.blk (by decide)) _).far (hBn.ne_ hfa.blk (by decide)) _).cell]; rfl⟩
  have z1 := hB1.frozen 1
  have q11 : (W.drew.setCell ⟨f.g, 0, none⟩ (.slice A k c)).cell? ⟨f.g, 1, none⟩ = some (.int .i64 (f.la : Int)) := by rw [hB1.cell]; rfl
  have hT : Turn B W p m L S (setP (plain L) (f.nm, f.bs.take k, mm)) ((W.drew.setCell ⟨f.g, 0, none⟩ (.slice A k c)).setCell ⟨f.g, 1, none⟩ (.int .i64 (mm : Int))) := by
    have hk2 : Keep (fun i => i = f.g ∨ f.v.ownBlock = some i) W ((W.drew.setCell ⟨f.g, 0, none⟩ (.slice A k c)).setCell ⟨f.g, 1, none⟩ (.int .i64 (mm : Int))) :=
      ((Keep.of_below (S := fun i => i = f.g ∨ f.v.ownBlock = some i) hkW).trans (Keep.setCell (S := fun i => i = f.g ∨ f.v.ownBlock = some i) _ ⟨f.g, 0, none⟩ _ (.inl rfl)) (fun _ h => h) (fun _ _ h => h)).trans (Keep.setCell (S := fun i => i = f.g ∨ f.v.ownBlock = some i) _ ⟨f.g, 1, none⟩ _ (.inl rfl)) (fun _ h => h) (fun _ _ h => h)
    have hob : (Value.slice A k c).ownBlock = f.v.ownBlock := by rw [hvv]; cases A <;> rfl
    have hlen : (f.bs.take k).length = k := by rw [List.length_take]; omega
    refine Turn.put (f' := { f with bs := f.bs.take k, la := mm, v := .slice A k c }) hd hf rfl rfl hk2 ⟨hB2, ?_, ?_, hfa.may⟩ (fun i hi => .inl (hob ▸ hi)) ?_ hB
    · have hne : ∀ i, (Value.slice A k c).ownBlock = some i → i ≠ f.g := fun i hi e => hnr (by rw [← hob, hi, e])
      exact ((hrow.pre k (by omega)).drew.keep (fun i hi => Below.heap_setCell _ _ _ i (fun e => hne i hi e))).keep (fun i hi => Below.heap_setCell _ _ _ i (fun e => hne i hi e))
    · show mm ≤ (f.bs.take k).length; omega
    · show total L + (f.bs.take k).length ≤ _; omega
  have HT := Lib.hid hT
  clear hT hd hf hfa hBf hBn hvv e' hc' hB1 hB2 hBg hrow hkW hnr hsh hrm
  have hS0 : W.drew.cell? ⟨bf, 0, none⟩ = some (.pointer (some ⟨f.g, 0, none⟩)) ∧ W.drew.cell? ⟨bn, 0, none⟩ = some (.int .i64 (k : Int)) := ⟨cf, cn⟩
  generalize f.g = g at *
  generalize f.la = la at *

  rcases Nat.lt_or_ge k la with hlt | hge
  · obtain rfl : k = mm := by omega
    clear hmm
    go_enter Tryz.func147, Tryz.ntmps147
    go_wp2_with fail
    refine wp_region_held_drew (S := fun w' => w'.cell? ⟨bf, 0, none⟩ = some (.pointer (some ⟨g, 0, none⟩)) ∧ w'.cell? ⟨bn, 0, none⟩ = some (.int .i64 (k : Int))) hfo hS0 (fun _ => ?_)
    clear cf cn
    generalize W.drew = W2 at hS0 hS3 hS4 q0 q1 q11 z0 z1 HT ⊢
    refine' wpAnyH_take (i := 0) (oi := ⟨some 2, _, _, _, _, _⟩) (v := _) rfl (by kernel_rfl) (by kernel_rfl) (by kernel_rfl) (fun _ _ _ h => h) (Or.inl ⟨by rfl, ?y0u⟩) hS0 ?r0u
    case y0u => (intro w' hSw; obtain ⟨s0, s1⟩ := hSw; go_simp; try rfl)
    try simp only [Act.put, List.setIfInBounds_toArray, List.set_cons_zero, List.set_cons_succ]
    refine' wpAnyH_take (i := 1) (oi := ⟨some 3, _, _, _, _, _⟩) (v := _) rfl (by kernel_rfl) (by kernel_rfl) (by kernel_rfl) (fun _ _ _ h => h) (Or.inl ⟨by rfl, ?y1u⟩) hS0 ?r1u
    case y1u => (intro w' hSw; obtain ⟨s0, s1⟩ := hSw; go_simp; try rfl)
    try simp only [Act.put, List.setIfInBounds_toArray, List.set_cons_zero, List.set_cons_succ]
    refine' wpAnyH_take (i := 2) (oi := ⟨some 4, _, _, _, _, _⟩) (v := _) rfl (by kernel_rfl) (by kernel_rfl) (by kernel_rfl) (fun _ _ _ h => h) (Or.inl ⟨by rfl, ?y2u⟩) hS0 ?r2u
    case y2u => (intro w' hSw; obtain ⟨s0, s1⟩ := hSw; go_simp; try rfl)
    try simp only [Act.put, List.setIfInBounds_toArray, List.set_cons_zero, List.set_cons_succ]
    refine' wpAnyH_take (i := 3) (oi := ⟨some 5, _, _, _, _, _⟩) (v := _) rfl (by kernel_rfl) (by kernel_rfl) (by kernel_rfl) (fun _ _ _ h => h) (Or.inl ⟨by rfl, ?y3u⟩) hS0 ?r3u
    case y3u => (intro w' hSw; obtain ⟨s0, s1⟩ := hSw; go_simp; try rfl)
    try simp only [Act.put, List.setIfInBounds_toArray, List.set_cons_zero, List.set_cons_succ]
    refine' wpAnyH_take (i := 4) (oi := ⟨some 6, _, _, _, _, _⟩) (v := _) rfl (by kernel_rfl) (by kernel_rfl) (by kernel_rfl) (fun _ _ _ h => h) (Or.inl ⟨by rfl, ?y4u⟩) hS0 ?r4u
    case y4u => (intro w' hSw; obtain ⟨s0, s1⟩ := hSw; go_simp; try rfl)
    try simp only [Act.put, List.setIfInBounds_toArray, List.set_cons_zero, List.set_cons_succ]
    refine' wpAnyH_take (i := 6) (oi := ⟨some 8, _, _, _, _, _⟩) (v := _) rfl (by kernel_rfl) (by kernel_rfl) (by kernel_rfl) (fun _ _ _ h => h) (Or.inl ⟨by rfl, ?y6u⟩) hS0 ?r6u
    case y6u => (intro w' hSw; obtain ⟨s0, s1⟩ := hSw; go_simp; try rfl)
    try simp only [Act.put, List.setIfInBounds_toArray, List.set_cons_zero, List.set_cons_succ]
    refine' wpAnyH_take (i := 8) (oi := ⟨some 10, _, _, _, _, _⟩) (v := _) rfl (by kernel_rfl) (by kernel_rfl) (by kernel_rfl) (fun _ _ _ h => h) (Or.inl ⟨by rfl, ?y8u⟩) hS0 ?r8u
    case y8u => (intro w' hSw; obtain ⟨s0, s1⟩ := hSw; go_simp; try rfl)
    try simp only [Act.put, List.setIfInBounds_toArray, List.set_cons_zero, List.set_cons_succ]
    refine' wpAnyH_take (i := 9) (oi := ⟨some 11, _, _, _, _, _⟩) (v := _) rfl (by kernel_rfl) (by kernel_rfl) (by kernel_rfl) (fun _ _ _ h => h) (Or.inl ⟨by rfl, ?y9u⟩) hS0 ?r9u
    case y9u => (intro w' hSw; obtain ⟨s0, s1⟩ := hSw; go_simp; try rfl)
    try simp only [Act.put, List.setIfInBounds_toArray, List.set_cons_zero, List.set_cons_succ]
    refine' wpAnyH_take (i := 10) (oi := ⟨some 12, _, _, _, _, _⟩) (v := _) rfl (by kernel_rfl) (by kernel_rfl) (by kernel_rfl) (fun _ _ _ h => h) (Or.inl ⟨by rfl, ?y10u⟩) hS0 ?r10u
    case y10u => (intro w' hSw; obtain ⟨s0, s1⟩ := hSw; go_simp; try rfl)
    try simp only [Act.put, List.setIfInBounds_toArray, List.set_cons_zero, List.set_cons_succ]
    refine' wpAnyH_take (i := 12) (oi := ⟨some 14, _, _, _, _, _⟩) (v := _) rfl (by kernel_rfl) (by kernel_rfl) (by kernel_rfl) (fun _ _ _ h => h) (Or.inl ⟨by rfl, ?y12u⟩) hS0 ?r12u
    case y12u => (intro w' hSw; obtain ⟨s0, s1⟩ := hSw; go_simp; try rfl)
    try simp only [Act.put, List.setIfInBounds_toArray, List.set_cons_zero, List.set_cons_succ]
    refine held_two (i := 5) (j := 11) (by kernel_rfl) rfl rfl (fun K hK => ?_) (fun K hK => ?_)
    case' r12u.refine_1 =>
      go_simp
      refine hK.out _ _ hS0 (fun _ => ?_)
      clear hK K
      try simp only [Act.put, List.setIfInBounds_toArray, List.set_cons_zero, List.set_cons_succ]
      refine' wpAnyH_take (i := 7) (oi := ⟨some 9, _, _, _, _, _⟩) (v := _) rfl (by kernel_rfl) (by kernel_rfl) (by kernel_rfl) (fun _ _ _ h => h) (Or.inl ⟨by rfl, ?y7au⟩) hS0 ?r7au
      case y7au => (intro w' hSw; obtain ⟨s0, s1⟩ := hSw; go_simp; try rfl)
      try simp only [Act.put, List.setIfInBounds_toArray, List.set_cons_zero, List.set_cons_succ]
      refine held_one (i := 11) (by kernel_rfl) rfl (fun K hK => ?_)
      go_simp
      refine hK.out _ _ hS0 (fun _ => ?_)
      clear hK K
      try simp only [Act.put, List.setIfInBounds_toArray, List.set_cons_zero, List.set_cons_succ]
      refine' wpAnyH_take (i := 13) (oi := ⟨some 15, _, _, _, _, _⟩) (v := _) rfl (by kernel_rfl) (by kernel_rfl) (by kernel_rfl) (fun _ _ _ h => h) (Or.inl ⟨by rfl, ?y13au⟩) hS0 ?r13au
      case y13au => (intro w' hSw; obtain ⟨s0, s1⟩ := hSw; go_simp; try rfl)
      try simp only [Act.put, List.setIfInBounds_toArray, List.set_cons_zero, List.set_cons_succ]
      refine' wpAnyH_take (i := 14) (oi := ⟨some 16, _, _, _, _, _⟩) (v := _) rfl (by kernel_rfl) (by kernel_rfl) (by kernel_rfl) (fun _ _ _ h => h) (Or.inl ⟨by rfl, ?y14au⟩) hS0 ?r14au
      case y14au => (intro w' hSw; obtain ⟨s0, s1⟩ := hSw; go_simp; try rfl)
      try simp only [Act.put, List.setIfInBounds_toArray, List.set_cons_zero, List.set_cons_succ]
      refine' wpAnyH_take (i := 15) (oi := ⟨some 17, _, _, _, _, _⟩) (v := _) rfl (by kernel_rfl) (by kernel_rfl) (by kernel_rfl) (fun _ _ _ h => h) (Or.inl ⟨by rfl, ?y15au⟩) hS0 ?r15au
      case y15au => (intro w' hSw; obtain ⟨s0, s1⟩ := hSw; go_simp; try rfl)
      try simp only [Act.put, List.setIfInBounds_toArray, List.set_cons_zero, List.set_cons_succ]
      refine held_one (i := 16) (by kernel_rfl) rfl (fun K hK => ?_)
      go_simp
      refine hK.out _ _ hS3 (fun _ => ?_)
      clear hK K
      try simp only [Act.put, List.setIfInBounds_toArray, List.set_cons_zero, List.set_cons_succ]
      refine' wpAnyH_take (i := 17) (oi := ⟨some 18, _, _, _, _, _⟩) (v := _) rfl (by kernel_rfl) (by kernel_rfl) (by kernel_rfl) (fun _ _ _ h => h) (Or.inl ⟨by rfl, ?y17au⟩) hS3 ?r17au
      case y17au => (intro w' hSw; obtain ⟨s0, s1⟩ := hSw; go_simp; try rfl)
      try simp only [Act.put, List.setIfInBounds_toArray, List.set_cons_zero, List.set_cons_succ]
      refine' wpAnyH_take (i := 18) (oi := ⟨some 19, _, _, _, _, _⟩) (v := _) rfl (by kernel_rfl) (by kernel_rfl) (by kernel_rfl) (fun _ _ _ h => h) (Or.inl ⟨by rfl, ?y18au⟩) hS3 ?r18au
      case y18au => (intro w' hSw; obtain ⟨s0, s1⟩ := hSw; go_simp; try rfl)
      try simp only [Act.put, List.setIfInBounds_toArray, List.set_cons_zero, List.set_cons_succ]
      refine held_one (i := 19) (by kernel_rfl) rfl (fun K hK => ?_)
      go_simp
      refine hK.out _ _ hS4 (fun _ => ?_)
      clear hK K
      try simp only [Act.put, List.setIfInBounds_toArray, List.set_cons_zero, List.set_cons_succ]
      refine wpAnyH_done (by kernel_rfl) ?_ _
      go_wp2
      go_end0
      exact ⟨rfl, HT.out⟩
    case' r12u.refine_2 =>
      go_simp
      refine hK.out _ _ hS0 (fun _ => ?_)
      clear hK K
      try simp only [Act.put, List.setIfInBounds_toArray, List.set_cons_zero, List.set_cons_succ]
      refine' wpAnyH_take (i := 13) (oi := ⟨some 15, _, _, _, _, _⟩) (v := _) rfl (by kernel_rfl) (by kernel_rfl) (by kernel_rfl) (fun _ _ _ h => h) (Or.inl ⟨by rfl, ?y13bu⟩) hS0 ?r13bu
      case y13bu => (intro w' hSw; obtain ⟨s0, s1⟩ := hSw; go_simp; try rfl)
      try simp only [Act.put, List.setIfInBounds_toArray, List.set_cons_zero, List.set_cons_succ]
      refine held_one (i := 5) (by kernel_rfl) rfl (fun K hK => ?_)
      go_simp
      refine hK.out _ _ hS0 (fun _ => ?_)
      clear hK K
      try simp only [Act.put, List.setIfInBounds_toArray, List.set_cons_zero, List.set_cons_succ]
      refine' wpAnyH_take (i := 7) (oi := ⟨some 9, _, _, _, _, _⟩) (v := _) rfl (by kernel_rfl) (by kernel_rfl) (by kernel_rfl) (fun _ _ _ h => h) (Or.inl ⟨by rfl, ?y7bu⟩) hS0 ?r7bu
      case y7bu => (intro w' hSw; obtain ⟨s0, s1⟩ := hSw; go_simp; try rfl)
      try simp only [Act.put, List.setIfInBounds_toArray, List.set_cons_zero, List.set_cons_succ]
      refine' wpAnyH_take (i := 14) (oi := ⟨some 16, _, _, _, _, _⟩) (v := _) rfl (by kernel_rfl) (by kernel_rfl) (by kernel_rfl) (fun _ _ _ h => h) (Or.inl ⟨by rfl, ?y14bu⟩) hS0 ?r14bu
      case y14bu => (intro w' hSw; obtain ⟨s0, s1⟩ := hSw; go_simp; try rfl)
      try simp only [Act.put, List.setIfInBounds_toArray, List.set_cons_zero, List.set_cons_succ]
      refine' wpAnyH_take (i := 15) (oi := ⟨some 17, _, _, _, _, _⟩) (v := _) rfl (by kernel_rfl) (by kernel_rfl) (by kernel_rfl) (fun _ _ _ h => h) (Or.inl ⟨by rfl, ?y15bu⟩) hS0 ?r15bu
      case y15bu => (intro w' hSw; obtain ⟨s0, s1⟩ := hSw; go_simp; try rfl)
      try simp only [Act.put, List.setIfInBounds_toArray, List.set_cons_zero, List.set_cons_succ]
      refine held_one (i := 16) (by kernel_rfl) rfl (fun K hK => ?_)
      go_simp
      refine hK.out _ _ hS3 (fun _ => ?_)
      clear hK K
      try simp only [Act.put, List.setIfInBounds_toArray, List.set_cons_zero, List.set_cons_succ]
      refine' wpAnyH_take (i := 17) (oi := ⟨some 18, _, _, _, _, _⟩) (v := _) rfl (by kernel_rfl) (by kernel_rfl) (by kernel_rfl) (fun _ _ _ h => h) (Or.inl ⟨by rfl, ?y17bu⟩) hS3 ?r17bu
      case y17bu => (intro w' hSw; obtain ⟨s0, s1⟩ := hSw; go_simp; try rfl)
      try simp only [Act.put, List.setIfInBounds_toArray, List.set_cons_zero, List.set_cons_succ]
      refine' wpAnyH_take (i := 18) (oi := ⟨some 19, _, _, _, _, _⟩) (v := _) rfl (by kernel_rfl) (by kernel_rfl) (by kernel_rfl) (fun _ _ _ h => h) (Or.inl ⟨by rfl, ?y18bu⟩) hS3 ?r18bu
      case y18bu => (intro w' hSw; obtain ⟨s0, s1⟩ := hSw; go_simp; try rfl)
      try simp only [Act.put, List.setIfInBounds_toArray, List.set_cons_zero, List.set_cons_succ]
      refine held_one (i := 19) (by kernel_rfl) rfl (fun K hK => ?_)
      go_simp
      refine hK.out _ _ hS4 (fun _ => ?_)
      clear hK K
      try simp only [Act.put, List.setIfInBounds_toArray, List.set_cons_zero, List.set_cons_succ]
      refine wpAnyH_done (by kernel_rfl) ?_ _
      go_wp2
      go_end0
      exact ⟨rfl, HT.out⟩
  · obtain rfl : mm = la := by omega
    clear hmm
    have hnl : ¬ k < mm := by omega
    go_enter Tryz.func147, Tryz.ntmps147
    go_wp2_with fail
    refine wp_region_held_drew (S := fun w' => w'.cell? ⟨bf, 0, none⟩ = some (.pointer (some ⟨g, 0, none⟩)) ∧ w'.cell? ⟨bn, 0, none⟩ = some (.int .i64 (k : Int))) hfo hS0 (fun _ => ?_)
    clear cf cn
    generalize W.drew = W2 at hS0 hS3 hS4 q0 q1 q11 z0 z1 HT ⊢
    refine' wpAnyH_take (i := 0) (oi := ⟨some 2, _, _, _, _, _⟩) (v := _) rfl (by kernel_rfl) (by kernel_rfl) (by kernel_rfl) (fun _ _ _ h => h) (Or.inl ⟨by rfl, ?y0v⟩) hS0 ?r0v
    case y0v => (intro w' hSw; obtain ⟨s0, s1⟩ := hSw; go_simp; try rfl)
    try simp only [Act.put, List.setIfInBounds_toArray, List.set_cons_zero, List.set_cons_succ]
    refine' wpAnyH_take (i := 1) (oi := ⟨some 3, _, _, _, _, _⟩) (v := _) rfl (by kernel_rfl) (by kernel_rfl) (by kernel_rfl) (fun _ _ _ h => h) (Or.inl ⟨by rfl, ?y1v⟩) hS0 ?r1v
    case y1v => (intro w' hSw; obtain ⟨s0, s1⟩ := hSw; go_simp; try rfl)
    try simp only [Act.put, List.setIfInBounds_toArray, List.set_cons_zero, List.set_cons_succ]
    refine' wpAnyH_take (i := 2) (oi := ⟨some 4, _, _, _, _, _⟩) (v := _) rfl (by kernel_rfl) (by kernel_rfl) (by kernel_rfl) (fun _ _ _ h => h) (Or.inl ⟨by rfl, ?y2v⟩) hS0 ?r2v
    case y2v => (intro w' hSw; obtain ⟨s0, s1⟩ := hSw; go_simp; try rfl)
    try simp only [Act.put, List.setIfInBounds_toArray, List.set_cons_zero, List.set_cons_succ]
    refine' wpAnyH_take (i := 3) (oi := ⟨some 5, _, _, _, _, _⟩) (v := _) rfl (by kernel_rfl) (by kernel_rfl) (by kernel_rfl) (fun _ _ _ h => h) (Or.inl ⟨by rfl, ?y3v⟩) hS0 ?r3v
    case y3v => (intro w' hSw; obtain ⟨s0, s1⟩ := hSw; go_simp; try rfl)
    try simp only [Act.put, List.setIfInBounds_toArray, List.set_cons_zero, List.set_cons_succ]
    refine' wpAnyH_take (i := 4) (oi := ⟨some 6, _, _, _, _, _⟩) (v := _) rfl (by kernel_rfl) (by kernel_rfl) (by kernel_rfl) (fun _ _ _ h => h) (Or.inl ⟨by rfl, ?y4v⟩) hS0 ?r4v
    case y4v => (intro w' hSw; obtain ⟨s0, s1⟩ := hSw; go_simp; try rfl)
    try simp only [Act.put, List.setIfInBounds_toArray, List.set_cons_zero, List.set_cons_succ]
    refine' wpAnyH_take (i := 6) (oi := ⟨some 8, _, _, _, _, _⟩) (v := _) rfl (by kernel_rfl) (by kernel_rfl) (by kernel_rfl) (fun _ _ _ h => h) (Or.inl ⟨by rfl, ?y6v⟩) hS0 ?r6v
    case y6v => (intro w' hSw; obtain ⟨s0, s1⟩ := hSw; go_simp; try rfl)
    try simp only [Act.put, List.setIfInBounds_toArray, List.set_cons_zero, List.set_cons_succ]
    refine' wpAnyH_take (i := 8) (oi := ⟨some 10, _, _, _, _, _⟩) (v := _) rfl (by kernel_rfl) (by kernel_rfl) (by kernel_rfl) (fun _ _ _ h => h) (Or.inl ⟨by rfl, ?y8v⟩) hS0 ?r8v
    case y8v => (intro w' hSw; obtain ⟨s0, s1⟩ := hSw; go_simp; try rfl)
    try simp only [Act.put, List.setIfInBounds_toArray, List.set_cons_zero, List.set_cons_succ]
    refine' wpAnyH_take (i := 9) (oi := ⟨some 11, _, _, _, _, _⟩) (v := _) rfl (by kernel_rfl) (by kernel_rfl) (by kernel_rfl) (fun _ _ _ h => h) (Or.inl ⟨by rfl, ?y9v⟩) hS0 ?r9v
    case y9v => (intro w' hSw; obtain ⟨s0, s1⟩ := hSw; go_simp; try rfl)
    try simp only [Act.put, List.setIfInBounds_toArray, List.set_cons_zero, List.set_cons_succ]
    refine' wpAnyH_take (i := 10) (oi := ⟨some 12, _, _, _, _, _⟩) (v := _) rfl (by kernel_rfl) (by kernel_rfl) (by kernel_rfl) (fun _ _ _ h => h) (Or.inl ⟨by rfl, ?y10v⟩) hS0 ?r10v
    case y10v => (intro w' hSw; obtain ⟨s0, s1⟩ := hSw; go_simp; try rfl)
    try simp only [Act.put, List.setIfInBounds_toArray, List.set_cons_zero, List.set_cons_succ]
    refine' wpAnyH_take (i := 12) (oi := ⟨some 14, _, _, _, _, _⟩) (v := _) rfl (by kernel_rfl) (by kernel_rfl) (by kernel_rfl) (fun _ _ _ h => h) (Or.inl ⟨by rfl, ?y12v⟩) hS0 ?r12v
    case y12v => (intro w' hSw; obtain ⟨s0, s1⟩ := hSw; go_simp; try rfl)
    try simp only [Act.put, List.setIfInBounds_toArray, List.set_cons_zero, List.set_cons_succ]
    refine held_two (i := 5) (j := 11) (by kernel_rfl) rfl rfl (fun K hK => ?_) (fun K hK => ?_)
    case' r12v.refine_1 =>
      go_simp
      refine hK.out _ _ hS0 (fun _ => ?_)
      clear hK K
      try simp only [Act.put, List.setIfInBounds_toArray, List.set_cons_zero, List.set_cons_succ]
      refine' wpAnyH_take (i := 7) (oi := ⟨some 9, _, _, _, _, _⟩) (v := _) rfl (by kernel_rfl) (by kernel_rfl) (by kernel_rfl) (fun _ _ _ h => h) (Or.inl ⟨by rfl, ?y7av⟩) hS0 ?r7av
      case y7av => (intro w' hSw; obtain ⟨s0, s1⟩ := hSw; go_simp; try rfl)
      try simp only [Act.put, List.setIfInBounds_toArray, List.set_cons_zero, List.set_cons_succ]
      refine held_one (i := 11) (by kernel_rfl) rfl (fun K hK => ?_)
      go_simp
      refine hK.out _ _ hS0 (fun _ => ?_)
      clear hK K
      try simp only [Act.put, List.setIfInBounds_toArray, List.set_cons_zero, List.set_cons_succ]
      refine' wpAnyH_take (i := 13) (oi := ⟨some 15, _, _, _, _, _⟩) (v := _) rfl (by kernel_rfl) (by kernel_rfl) (by kernel_rfl) (fun _ _ _ h => h) (Or.inl ⟨by rfl, ?y13av⟩) hS0 ?r13av
      case y13av => (intro w' hSw; obtain ⟨s0, s1⟩ := hSw; go_simp; try rfl)
      try simp only [Act.put, List.setIfInBounds_toArray, List.set_cons_zero, List.set_cons_succ]
      refine' wpAnyH_take (i := 14) (oi := ⟨some 16, _, _, _, _, _⟩) (v := _) rfl (by kernel_rfl) (by kernel_rfl) (by kernel_rfl) (fun _ _ _ h => h) (Or.inl ⟨by rfl, ?y14av⟩) hS0 ?r14av
      case y14av => (intro w' hSw; obtain ⟨s0, s1⟩ := hSw; go_simp; try rfl)
      try simp only [Act.put, List.setIfInBounds_toArray, List.set_cons_zero, List.set_cons_succ]
      refine' wpAnyH_take (i := 15) (oi := ⟨some 17, _, _, _, _, _⟩) (v := _) rfl (by kernel_rfl) (by kernel_rfl) (by kernel_rfl) (fun _ _ _ h => h) (Or.inl ⟨by rfl, ?y15av⟩) hS0 ?r15av
      case y15av => (intro w' hSw; obtain ⟨s0, s1⟩ := hSw; go_simp; try rfl)
      try simp only [Act.put, List.setIfInBounds_toArray, List.set_cons_zero, List.set_cons_succ]
      refine held_one (i := 16) (by kernel_rfl) rfl (fun K hK => ?_)
      go_simp
      refine hK.out _ _ hS3 (fun _ => ?_)
      clear hK K
      try simp only [Act.put, List.setIfInBounds_toArray, List.set_cons_zero, List.set_cons_succ]
      refine' wpAnyH_take (i := 17) (oi := ⟨some 18, _, _, _, _, _⟩) (v := _) rfl (by kernel_rfl) (by kernel_rfl) (by kernel_rfl) (fun _ _ _ h => h) (Or.inl ⟨by rfl, ?y17av⟩) hS3 ?r17av
      case y17av => (intro w' hSw; obtain ⟨s0, s1⟩ := hSw; go_simp; try rfl)
      try simp only [Act.put, List.setIfInBounds_toArray, List.set_cons_zero, List.set_cons_succ]
      refine' wpAnyH_take (i := 18) (oi := ⟨some 19, _, _, _, _, _⟩) (v := _) rfl (by kernel_rfl) (by kernel_rfl) (by kernel_rfl) (fun _ _ _ h => h) (Or.inl ⟨by rfl, ?y18av⟩) hS3 ?r18av
      case y18av => (intro w' hSw; obtain ⟨s0, s1⟩ := hSw; go_simp; try rfl)
      try simp only [Act.put, List.setIfInBounds_toArray, List.set_cons_zero, List.set_cons_succ]
      refine held_one (i := 19) (by kernel_rfl) rfl (fun K hK => ?_)
      go_simp
      refine hK.out _ _ hS4 (fun _ => ?_)
      clear hK K
      try simp only [Act.put, List.setIfInBounds_toArray, List.set_cons_zero, List.set_cons_succ]
      refine wpAnyH_done (by kernel_rfl) ?_ _
      go_wp2
      go_end0
      exact ⟨rfl, HT.out⟩
    case' r12v.refine_2 =>
      go_simp
      refine hK.out _ _ hS0 (fun _ => ?_)
      clear hK K
      try simp only [Act.put, List.setIfInBounds_toArray, List.set_cons_zero, List.set_cons_succ]
      refine' wpAnyH_take (i := 13) (oi := ⟨some 15, _, _, _, _, _⟩) (v := _) rfl (by kernel_rfl) (by kernel_rfl) (by kernel_rfl) (fun _ _ _ h => h) (Or.inl ⟨by rfl, ?y13bv⟩) hS0 ?r13bv
      case y13bv => (intro w' hSw; obtain ⟨s0, s1⟩ := hSw; go_simp; try rfl)
      try simp only [Act.put, List.setIfInBounds_toArray, List.set_cons_zero, List.set_cons_succ]
      refine held_one (i := 5) (by kernel_rfl) rfl (fun K hK => ?_)
      go_simp
      refine hK.out _ _ hS0 (fun _ => ?_)
      clear hK K
      try simp only [Act.put, List.setIfInBounds_toArray, List.set_cons_zero, List.set_cons_succ]
      refine' wpAnyH_take (i := 7) (oi := ⟨some 9, _, _, _, _, _⟩) (v := _) rfl (by kernel_rfl) (by kernel_rfl) (by kernel_rfl) (fun _ _ _ h => h) (Or.inl ⟨by rfl, ?y7bv⟩) hS0 ?r7bv
      case y7bv => (intro w' hSw; obtain ⟨s0, s1⟩ := hSw; go_simp; try rfl)
      try simp only [Act.put, List.setIfInBounds_toArray, List.set_cons_zero, List.set_cons_succ]
      refine' wpAnyH_take (i := 14) (oi := ⟨some 16, _, _, _, _, _⟩) (v := _) rfl (by kernel_rfl) (by kernel_rfl) (by kernel_rfl) (fun _ _ _ h => h) (Or.inl ⟨by rfl, ?y14bv⟩) hS0 ?r14bv
      case y14bv => (intro w' hSw; obtain ⟨s0, s1⟩ := hSw; go_simp; try rfl)
      try simp only [Act.put, List.setIfInBounds_toArray, List.set_cons_zero, List.set_cons_succ]
      refine' wpAnyH_take (i := 15) (oi := ⟨some 17, _, _, _, _, _⟩) (v := _) rfl (by kernel_rfl) (by kernel_rfl) (by kernel_rfl) (fun _ _ _ h => h) (Or.inl ⟨by rfl, ?y15bv⟩) hS0 ?r15bv
      case y15bv => (intro w' hSw; obtain ⟨s0, s1⟩ := hSw; go_simp; try rfl)
      try simp only [Act.put, List.setIfInBounds_toArray, List.set_cons_zero, List.set_cons_succ]
      refine held_one (i := 16) (by kernel_rfl) rfl (fun K hK => ?_)
      go_simp
      refine hK.out _ _ hS3 (fun _ => ?_)
      clear hK K
      try simp only [Act.put, List.setIfInBounds_toArray, List.set_cons_zero, List.set_cons_succ]
      refine' wpAnyH_take (i := 17) (oi := ⟨some 18, _, _, _, _, _⟩) (v := _) rfl (by kernel_rfl) (by kernel_rfl) (by kernel_rfl) (fun _ _ _ h => h) (Or.inl ⟨by rfl, ?y17bv⟩) hS3 ?r17bv
      case y17bv => (intro w' hSw; obtain ⟨s0, s1⟩ := hSw; go_simp; try rfl)
      try simp only [Act.put, List.setIfInBounds_toArray, List.set_cons_zero, List.set_cons_succ]
      refine' wpAnyH_take (i := 18) (oi := ⟨some 19, _, _, _, _, _⟩) (v := _) rfl (by kernel_rfl) (by kernel_rfl) (by kernel_rfl) (fun _ _ _ h => h) (Or.inl ⟨by rfl, ?y18bv⟩) hS3 ?r18bv
      case y18bv => (intro w' hSw; obtain ⟨s0, s1⟩ := hSw; go_simp; try rfl)
      try simp only [Act.put, List.setIfInBounds_toArray, List.set_cons_zero, List.set_cons_succ]
      refine held_one (i := 19) (by kernel_rfl) rfl (fun K hK => ?_)
      go_simp
      refine hK.out _ _ hS4 (fun _ => ?_)
      clear hK K
      try simp only [Act.put, List.setIfInBounds_toArray, List.set_cons_zero, List.set_cons_succ]
      refine wpAnyH_done (by kernel_rfl) ?_ _
      go_wp2
      go_end0
      exact ⟨rfl, HT.out⟩
end
end Go.Proofs.YtibifnknkphanaaGreatDoor

namespace Go.Proofs.YtibifnknkphanaaGreatDoor
open Go.RowKit Go.Maps
open DskM
set_option linter.unusedVariables false
set_option linter.unusedSimpArgs false
set_option maxRecDepth 20000

section
variable {w w' W : World} {p m : Nat} {S S' : Ds} {L : List Fo}
set_option maxHeartbeats 4000000 in
theorem cut_any (h : Dk w p m S L) (hw : S.wr ≤ 1000000) (s : ByteArray) (n : Int) :
    Calls Tryz.prog 135 #[.pointer (some ⟨p, 0, none⟩), .string s, .int .i64 n] w (Res w p m L (cutS S (plain L) s.data.toList n)) := by
  unfold cutS
  have hb0 : Below w.heap.size w (w.alloc (.cells #[.int .i64 n] 3)) := (Below.refl _ _).alloc (Nat.le_refl _) _
  have hB1 := Blk.new w 3 #[.int .i64 n]
  have h0 := h.below hb0
  have HB0 := Lib.hid hb0
  by_cases hmk : mayB s.data.toList = true ∧ 0 ≤ n
  · rw [if_pos hmk]
    obtain ⟨hm, hn⟩ := hmk
    obtain ⟨k, rfl⟩ : ∃ k : Nat, n = (k : Int) := ⟨n.toNat, by omega⟩
    have hnd : decide ((0 : Int) ≤ (k : Int)) = true := decide_eq_true hn
    rw [find_plain]
    cases hf : find L s.data.toList with
    | none =>
      have hfi := find_lacks h0 s hm hf
      have H := Lib.hid h
      clear h hm hf h0 hB1 hb0 hn
      go_enter Tryz.func135, Tryz.ntmps135
      go_wp2_with fail
      refine hfi.mono ?_
      rintro e w1 ⟨rfl, hb1⟩
      have HB1 := Lib.hid (HB0.out.trans (hb1.mono HB0.out.size))
      clear hfi hb1
      go_wp2
      go_ret
      exact ⟨rfl, .same H.out (HB1.out.alloc HB1.out.size _)⟩
    | some f =>
      show Calls _ _ _ _ (Res w p m L (if (f.bs.length : Int) < (k : Int) then (2, S, plain L) else writeS S (setP (plain L) (f.nm, f.bs.take (k : Int).toNat, min f.la (k : Int).toNat)) (plain L) (plain L)))
      rw [Int.toNat_natCast]
      by_cases hlt : (f.bs.length : Int) < (k : Int)
      · rw [if_pos hlt]
        have HLTT := Lib.hid hlt
        clear hlt
        have hfi := find_there h0 s hm f hf
        obtain ⟨hfm, hnm⟩ := find_mem hf
        have H := Lib.hid h
        have HW := Lib.hid hw
        have HM := Lib.hid hfm
        have hpl := h.blk.lt
        clear h hm hf hw h0 hb0 hn hfm hnm
        go_enter Tryz.func135, Tryz.ntmps135
        go_wp2_with fail
        refine hfi.mono ?_
        rintro e w1 ⟨rfl, hb1⟩
        clear hfi
        have hb2 : Below w.heap.size w (w1.alloc (.cells #[.pointer (some ⟨f.g, 0, none⟩)] 108)) := (HB0.out.trans (hb1.mono HB0.out.size)).alloc (by have := hb1.size; have := HB0.out.size; omega) _
        have hC1 := (hB1.below hb1 hB1.lt).alloc (.cells #[.pointer (some ⟨f.g, 0, none⟩)] 108)
        have hC4 := Blk.new w1 108 #[.pointer (some ⟨f.g, 0, none⟩)]
        have hgz : w.heap.size ≤ w1.heap.size := (HB0.out.trans (hb1.mono HB0.out.size)).size
        clear hB1 hb1
        go_wp2_with fail
        generalize w1.heap.size = g at hC4 hgz ⊢
        generalize w1.alloc (.cells #[.pointer (some ⟨f.g, 0, none⟩)] 108) = W1 at hb2 hC1 hC4 ⊢
        have hd1 := H.out.below hb2
        have hfa := hd1.file f HM.out
        have c1 : W1.cell? ⟨w.heap.size, 0, none⟩ = some (.int .i64 (k : Int)) := by rw [hC1.cell]; rfl
        have c2 : W1.cell? ⟨g, 0, none⟩ = some (.pointer (some ⟨f.g, 0, none⟩)) := by rw [hC4.cell]; rfl
        have c3 := hfa.c0
        obtain ⟨A, q, c, hvv⟩ := hfa.row.shape
        rw [hvv] at c3
        obtain rfl : q = f.bs.length := by have := hfa.row.sl; rw [hvv] at this; exact this.len
        have HC := Lib.hid (And.intro hC1 hC4)
        have HD1 := Lib.hid hd1
        have hpz := hb2.size
        clear hvv hfa hC1 hC4 hd1
        have hld : decide ((f.bs.length : Int) < (k : Int)) = true := decide_eq_true HLTT.out
        have hld2 : f.bs.length < k := by have := HLTT.out; omega
        go_quiet (fail)
        have HB3 := Lib.hid (below_drewN hb2 nq)
        clear c1 c2 c3 hb2
        go_wp2
        go_ret
        exact ⟨rfl, .same H.out HB3.out⟩
      · rw [if_neg hlt]
        have HLTT := Lib.hid hlt
        clear hlt
        have hfi := find_there h0 s hm f hf
        obtain ⟨hfm, hnm⟩ := find_mem hf
        have H := Lib.hid h
        have HW := Lib.hid hw
        have HM := Lib.hid hfm
        have hpl := h.blk.lt
        clear h hm hf hw h0 hb0 hn hfm hnm
        go_enter Tryz.func135, Tryz.ntmps135
        go_wp2_with fail
        refine hfi.mono ?_
        rintro e w1 ⟨rfl, hb1⟩
        clear hfi
        have hb2 : Below w.heap.size w (w1.alloc (.cells #[.pointer (some ⟨f.g, 0, none⟩)] 108)) := (HB0.out.trans (hb1.mono HB0.out.size)).alloc (by have := hb1.size; have := HB0.out.size; omega) _
        have hC1 := (hB1.below hb1 hB1.lt).alloc (.cells #[.pointer (some ⟨f.g, 0, none⟩)] 108)
        have hC4 := Blk.new w1 108 #[.pointer (some ⟨f.g, 0, none⟩)]
        have hgz : w.heap.size ≤ w1.heap.size := (HB0.out.trans (hb1.mono HB0.out.size)).size
        clear hB1 hb1
        go_wp2_with fail
        generalize w1.heap.size = g at hC4 hgz ⊢
        generalize w1.alloc (.cells #[.pointer (some ⟨f.g, 0, none⟩)] 108) = W1 at hb2 hC1 hC4 ⊢
        have hd1 := H.out.below hb2
        have hfa := hd1.file f HM.out
        have c1 : W1.cell? ⟨w.heap.size, 0, none⟩ = some (.int .i64 (k : Int)) := by rw [hC1.cell]; rfl
        have c2 : W1.cell? ⟨g, 0, none⟩ = some (.pointer (some ⟨f.g, 0, none⟩)) := by rw [hC4.cell]; rfl
        have c3 := hfa.c0
        obtain ⟨A, q, c, hvv⟩ := hfa.row.shape
        rw [hvv] at c3
        obtain rfl : q = f.bs.length := by have := hfa.row.sl; rw [hvv] at this; exact this.len
        have HC := Lib.hid (And.intro hC1 hC4)
        have HD1 := Lib.hid hd1
        have hpz := hb2.size
        clear hvv hfa hC1 hC4 hd1
        have hld : decide ((f.bs.length : Int) < (k : Int)) = false := decide_eq_false (by have := HLTT.out; omega)
        have hld2 : ¬ f.bs.length < k := by have := HLTT.out; omega
        have hle : k ≤ f.bs.length := by have := HLTT.out; omega
        have HLE := Lib.hid hle
        clear hle
        go_quiet (fail)
        have hb3 := below_drewN hb2 nq
        have hd3 : Dk (W1.drewN nq) p m S L := HD1.out.below (below_drewN (Below.refl _ _) nq)
        have hC1 : Blk (W1.drewN nq) w.heap.size 3 #[.int .i64 (k : Int)] := HC.out.1.drewN nq
        have hC4 : Blk (W1.drewN nq) g 108 #[.pointer (some ⟨f.g, 0, none⟩)] := HC.out.2.drewN nq
        clear c1 c2 c3 hb2
        generalize W1.drewN nq = W3 at hb3 hd3 hC1 hC4 ⊢
        have hz3 := hb3.size
        have hwr := write_any (B := w.heap.size) hd3 HW.out 147 109 #[.pointer (some ⟨g, 0, none⟩), .pointer (some ⟨w.heap.size, 0, none⟩)] #[] (setP (plain L) (f.nm, f.bs.take k, min f.la k)) (plain L)
          (enters_of Tryz.func147 (by kernel_rfl) rfl) enters_nothing
          (fun W hd hk hz => cut1_any g w.heap.size k _ f HM.out hd (hC4.kept hk (by omega)) (hC1.kept hk (by omega)) HLE.out (by omega) rfl)
          (fun W hd _ _ => nothing_turn W _ hd)
        have HWR := Lib.hid hwr
        have HB := Lib.hid hb3
        clear hwr hC1 hC4 hd3 hb3
        go_wp2_with fail
        refine HWR.out.mono ?_
        rintro e w5 ⟨rfl, ht⟩
        have HT := Lib.hid ht
        clear ht HWR
        generalize (writeS S (setP (plain L) (f.nm, f.bs.take k, min f.la k)) (plain L) (plain L)) = r at *
        go_wp2_with fail
        go_ret
        exact ⟨rfl, HT.out.from HB.out⟩
  · rw [if_neg hmk]
    obtain ⟨q, hq⟩ : ∃ q : Bool, q = decide (0 ≤ n) := ⟨_, rfl⟩
    have hnd : decide (0 ≤ n) = q := hq.symm
    have hfi := find_bad h0 s q (by rw [hq, decide_eq_true_iff]; exact hmk)
    have H := Lib.hid h
    clear h h0 hB1 hb0 hmk hq
    go_enter Tryz.func135, Tryz.ntmps135
    go_wp2_with fail
    refine hfi.mono ?_
    rintro e w1 ⟨rfl, hb1⟩
    have HB1 := Lib.hid (HB0.out.trans (hb1.mono HB0.out.size))
    clear hfi hb1
    go_wp2
    go_ret
    exact ⟨rfl, .same H.out (HB1.out.alloc HB1.out.size _)⟩

/-- What Fuse leaves. -/
def fuseS (S : Ds) (n : Int) : Ds := if S.dead = true then S else { S with fuse := n }
theorem fuse_any (h : Dk w p m S L) (n : Int) (h1 : -9223372036854775808 ≤ n) (h2 : n ≤ 9223372036854775807) :
    Calls Tryz.prog 18 #[.pointer (some ⟨p, 0, none⟩), .int .i64 n] w fun e w' => e = .returned (.tuple #[]) ∧ Dk w' p m (fuseS S n) L ∧ Keep (fun i => i = p) w w' ∧ w'.heap.size = w.heap.size := by
  have hn := none_any h
  have h3 := h.c3
  have c2 := h.c2
  have f2 := h.blk.frozen 2
  unfold fuseS
  cases hd : S.dead with
  | true =>
    rw [hd] at h3
    rw [if_pos rfl]
    have H := Lib.hid h
    clear h hd
    go_enter Tryz.func18, Tryz.ntmps18
    go_wp2_with fail
    refine hn.mono ?_
    rintro e w1 ⟨rfl, rfl⟩
    clear hn
    go_wp2
    refine bodyPost_ret (results_none rfl _ _ _) rfl ?_
    exact ⟨rfl, H.out, .refl _ _, rfl⟩
  | false =>
    rw [hd] at h3
    rw [if_neg (by simp)]
    have hT := h.at2 n h1 h2
    rw [hd] at hT
    have HT := Lib.hid hT
    clear hT
    have HK := Lib.hid (Keep.setCell (S := fun i => i = p) w ⟨p, 2, none⟩ (.int .i64 n) rfl)
    clear h hd h1 h2
    go_enter Tryz.func18, Tryz.ntmps18
    go_wp2_with fail
    refine hn.mono ?_
    rintro e w1 ⟨rfl, rfl⟩
    clear hn
    go_wp2
    go_end0
    exact ⟨rfl, HT.out, HK.out, by simp [World.setCell]⟩
end
end Go.Proofs.YtibifnknkphanaaGreatDoor

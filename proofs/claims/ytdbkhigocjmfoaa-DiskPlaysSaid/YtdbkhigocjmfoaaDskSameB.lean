/-
  The walk of Same, of two disks that are there.
-/
import Derived.Test.YtdbkhigocjmfoaaDskOpen
namespace Go.Proofs.Ytdbkhigocjmfoaa
open Go.RowKit Go.Maps Go.Shelf
open DskM
set_option linter.unusedVariables false
set_option linter.unusedSimpArgs false
set_option maxRecDepth 100000
attribute [local go_sem] Oper.semAt_some

def RiseP (F : List Fp) : Prop := F.Pairwise fun a b => Lt a.1 b.1
theorem rise_sub : ∀ {G F : List Fp}, RiseP F → RiseP G → (∀ x ∈ F, x ∈ G) → F.length ≤ G.length ∧ (F.length = G.length → F = G)
  | [], F, hF, _, h => by
    cases F with
    | nil => exact ⟨Nat.le_refl _, fun _ => rfl⟩
    | cons x F => exact absurd (h x (List.mem_cons_self ..)) (by simp)
  | y :: G, F, hF, hG, h => by
    obtain ⟨g1, g2⟩ := List.pairwise_cons.1 hG
    cases F with
    | nil => exact ⟨Nat.zero_le _, fun e => by simp at e⟩
    | cons x F =>
      obtain ⟨f1, f2⟩ := List.pairwise_cons.1 hF
      by_cases hxy : x = y
      · subst hxy
        obtain ⟨h1, h2⟩ := rise_sub f2 g2 (fun z hz => (List.mem_cons.1 (h z (List.mem_cons_of_mem _ hz))).resolve_left (fun e => (f1 z hz).ne (by rw [e])))
        exact ⟨by simp; omega, fun e => by rw [h2 (by simpa using e)]⟩
      · have hx : x ∈ G := (List.mem_cons.1 (h x (List.mem_cons_self ..))).resolve_left hxy
        have hy := g1 x hx
        obtain ⟨h1, h2⟩ := rise_sub hF g2 (fun z hz => (List.mem_cons.1 (h z hz)).resolve_left (fun e => by
          rcases List.mem_cons.1 hz with e2 | hz
          · exact hxy (e2.symm.trans e)
          · exact Lt.irrefl y.1 (hy.trans (e ▸ f1 z hz))))
        exact ⟨by simp at h1 ⊢; omega, fun e => by simp at h1 e; omega⟩
theorem rise_plain {L : List Fo} (h : Rise L) : RiseP (plain L) := by
  unfold RiseP plain
  rw [List.pairwise_map]
  exact h
def sameP (S1 S2 : Ds) (L1 L2 : List Fo) : Bool := decide (S1.cap = S2.cap ∧ plain L1 = plain L2)
theorem mem_plain {L2 : List Fo} (hr : Rise L2) (f : Fo) : f.p ∈ plain L2 ↔ ∃ k, find L2 f.nm = some k ∧ f.la = k.la ∧ f.bs = k.bs := by
  constructor
  · intro h
    obtain ⟨k, hk, e⟩ := List.mem_map.1 h
    have e1 : k.nm = f.nm := congrArg (·.1) e
    refine ⟨k, by rw [← e1]; exact find_of_mem hr hk, (congrArg (·.2.2) e).symm, (congrArg (·.2.1) e).symm⟩
  · rintro ⟨k, hk, e1, e2⟩
    obtain ⟨h1, h2⟩ := find_mem hk
    exact List.mem_map.2 ⟨k, h1, by unfold Fo.p; rw [h2, e1, e2]⟩
def fsB (L2 : List Fo) (f : Fo) : Bool := match find L2 f.nm with | none => false | some k => f.la == k.la && f.bs == k.bs
theorem fsB_iff {L2 : List Fo} (hr : Rise L2) (f : Fo) : fsB L2 f = true ↔ f.p ∈ plain L2 := by
  rw [mem_plain hr]
  unfold fsB
  cases find L2 f.nm with
  | none => simp
  | some k => simp
section
variable {w : World} {p m q mq : Nat} {S S2 : Ds} {L L2 : List Fo}
theorem fs_any (hd : Dk w p m S L) (hq : Dk w q mq S2 L2) (f : Fo) (hf : f ∈ L) : Calls Try.prog 48 #[.pointer (some ⟨f.g, 0, none⟩), ptrOf (find L2 f.nm)] w fun e w' => e = .returned (.bool (fsB L2 f)) ∧ Below w.heap.size w w' := by
  unfold fsB
  cases hc : find L2 f.nm with
  | none => exact fileSame_nil f.g
  | some k => exact fileSame_any f k (hd.file f hf) (hq.file k (find_mem hc).1)
def SmI (w0 : World) (p q hi : Nat) (L L2 : List Fo) (pre : List (EntL L)) (W : World) : Prop :=
  Below w0.heap.size w0 W ∧ hi ≤ W.heap.size ∧ Blk W w0.heap.size 23 #[.pointer (some ⟨p, 0, none⟩)] ∧ Blk W (w0.heap.size + 1) 23 #[.pointer (some ⟨q, 0, none⟩)] ∧ Blk W (w0.heap.size + 1 + 1) 4 #[.bool false] ∧
    ∀ x ∈ pre, ∃ f ∈ L, x.1 = (f.nm, f.bs.length) ∧ f.p ∈ plain L2
def SmX (w0 : World) (r : Bool) (c : Code) (pre : List (EntL L)) (W : World) : Prop :=
  Below w0.heap.size w0 W ∧ c = .ret ∧ Blk W (w0.heap.size + 1 + 1) 4 #[.bool r]
theorem SmI.own {w0 : World} {hi : Nat} (h0 : w0.heap.size ≤ hi) : OwnFrom hi (SmI w0 p q hi L L2) := by
  rintro pre X Y row ⟨hb, hs, b1, b2, b3, h4⟩ hg hr
  exact ⟨hb.grown hg hb.size (fun k e => by have := (hr k e).1; omega), Nat.le_trans hs hg.size, b1.own hg (fun r e => hr r e), b2.own hg (fun r e => hr r e), b3.own hg (fun r e => hr r e), h4⟩
theorem SmX.own {w0 : World} {hi : Nat} (h0 : w0.heap.size ≤ hi) (r : Bool) (c : Code) : OwnFrom hi (SmX (L := L) w0 r c) := by
  rintro pre X Y row ⟨hb, rfl, b3⟩ hg hr
  exact ⟨hb.grown hg hb.size (fun k e => by have := (hr k e).1; omega), rfl, b3.own hg (fun r e => hr r e)⟩
set_option maxHeartbeats 8000000 in
theorem same_dd (hd : Dk w p m S L) (hq : Dk w q mq S2 L2) :
    Calls Try.prog 16 #[.pointer (some ⟨p, 0, none⟩), .pointer (some ⟨q, 0, none⟩)] w fun e w' => e = .returned (.bool (sameP S S2 L L2)) ∧ Below w.heap.size w w' := by
  have hfo : Try.prog.follows .mixedOrders = true := by kernel_rfl
  obtain ⟨hb, b1, b2, b3, hz⟩ := sameW_facts w (some ⟨p, 0, none⟩) (some ⟨q, 0, none⟩)
  have n1 := hd.noneIs _ hb
  have n2 := hq.noneIs _ hb
  have q0 : (sameW w (some ⟨p, 0, none⟩) (some ⟨q, 0, none⟩)).cell? ⟨w.heap.size, 0, none⟩ = some (.pointer (some ⟨p, 0, none⟩)) := by rw [b1.cell]; rfl
  have q1 : (sameW w (some ⟨p, 0, none⟩) (some ⟨q, 0, none⟩)).cell? ⟨w.heap.size + 1, 0, none⟩ = some (.pointer (some ⟨q, 0, none⟩)) := by rw [b2.cell]; rfl
  have hW : sameW w (some ⟨p, 0, none⟩) (some ⟨q, 0, none⟩) = ((w.alloc (.cells #[.pointer (some ⟨p, 0, none⟩)] 23)).alloc (.cells #[.pointer (some ⟨q, 0, none⟩)] 23)).alloc (.cells #[.bool false] 4) := rfl
  generalize sameW w (some ⟨p, 0, none⟩) (some ⟨q, 0, none⟩) = W0 at *
  have HD := Lib.hid hd
  have HQ := Lib.hid hq
  have HW := Lib.hid hW
  rw [HW.out] at n1
  have HI := Lib.hid (And.intro hb (And.intro b1 (And.intro b2 (And.intro b3 hz))))
  clear b1 b2 b3 hz hb hd hq hW
  refine (callsIn_wide (n := 8)).1 ?_
  refine callsIn_of_wp_marks Try.func16 rfl trivial ?_ rfl
  simp only [Try.ntmps16, List.size_toArray, List.length_cons, List.length_nil, Nat.reduceAdd, Nat.reduceSub, Array.replicate_succ, Array.replicate_zero, List.push_toArray, List.append_toArray, List.nil_append, List.cons_append]
  gi_wp2_with fail
  refine ⟨trivial, (callsIn_wide.2 n1).mono ?_⟩
  rintro e w1 ⟨rfl, hw1⟩
  rw [← HW.out] at hw1 n1
  subst hw1
  gi_wp2_with fail
  refine ⟨trivial, (callsIn_wide.2 n2).mono ?_⟩
  rintro e w2 ⟨rfl, hw2⟩
  rw [hw2]
  clear hw2 n1 n2
  gi_wp2_with fail
  have hb0d : Below w.heap.size w w1.drew := HI.out.1.trans ((Below.refl _ _).drew.mono HI.out.1.size)
  have hdd := HD.out.below hb0d
  have hqd := HQ.out.below hb0d
  have hS0 : w1.drew.cell? ⟨w.heap.size, 0, none⟩ = some (.pointer (some ⟨p, 0, none⟩)) ∧ w1.drew.cell? ⟨w.heap.size + 1, 0, none⟩ = some (.pointer (some ⟨q, 0, none⟩)) ∧ w1.drew.cell? ⟨p, 0, none⟩ = some (.int .i64 (S.cap : Int)) ∧ w1.drew.cell? ⟨p, 1, none⟩ = some (.map (some m)) ∧ w1.drew.cell? ⟨q, 0, none⟩ = some (.int .i64 (S2.cap : Int)) ∧ w1.drew.cell? ⟨q, 1, none⟩ = some (.map (some mq)) ∧ w1.drew.ownsMap Try.prog 9 ptrR m L.length (DE L) ∧ w1.drew.ownsMap Try.prog 9 ptrR mq L2.length (DE L2) :=
    ⟨q0, q1, hdd.c0, hdd.c1, hqd.c0, hqd.c1, hdd.map, hqd.map⟩
  have HI2 := Lib.hid (And.intro hb0d (And.intro HI.out.2.1.drew (And.intro HI.out.2.2.1.drew (And.intro HI.out.2.2.2.1.drew (show w1.drew.heap.size = w.heap.size + 1 + 1 + 1 from HI.out.2.2.2.2)))))
  clear hb0d hdd hqd q0 q1
  refine wpIn_only (wpIn_wide.2 ?_)
  refine wp_region_held_drew (S := fun X => X.cell? ⟨w.heap.size, 0, none⟩ = some (.pointer (some ⟨p, 0, none⟩)) ∧ X.cell? ⟨w.heap.size + 1, 0, none⟩ = some (.pointer (some ⟨q, 0, none⟩)) ∧ X.cell? ⟨p, 0, none⟩ = some (.int .i64 (S.cap : Int)) ∧ X.cell? ⟨p, 1, none⟩ = some (.map (some m)) ∧ X.cell? ⟨q, 0, none⟩ = some (.int .i64 (S2.cap : Int)) ∧ X.cell? ⟨q, 1, none⟩ = some (.map (some mq)) ∧ X.ownsMap Try.prog 9 ptrR m L.length (DE L) ∧ X.ownsMap Try.prog 9 ptrR mq L2.length (DE L2)) hfo hS0 (fun hS0 => ?_)
  generalize w1.drew = W1 at hS0 HI2 ⊢
  have f2 := HI2.out.2.2.2.1.frozen 0
  have q2 : W1.cell? ⟨w.heap.size + 1 + 1, 0, none⟩ = some (.bool false) := by rw [HI2.out.2.2.2.1.cell]; rfl
  have hBF : Blk (W1.setCell ⟨w.heap.size + 1 + 1, 0, none⟩ (.bool false)) (w.heap.size + 1 + 1) 4 #[.bool false] := HI2.out.2.2.2.1.set_ 0 _
  have HCF := Lib.hid (show (W1.setCell ⟨w.heap.size + 1 + 1, 0, none⟩ (.bool false)).cell? ⟨w.heap.size + 1 + 1, 0, none⟩ = some (.bool false) by rw [hBF.cell]; rfl)
  have HBF := Lib.hid (HI2.out.1.setCell (p := ⟨w.heap.size + 1 + 1, 0, none⟩) (by show w.heap.size ≤ w.heap.size + 1 + 1; omega) (.bool false))
  clear hBF
  have HFEW := Lib.hid (And.intro HD.out.few HQ.out.few)
  have HCAP := Lib.hid (And.intro HD.out.cap2 HQ.out.cap2)
  by_cases hcap : S.cap = S2.cap
  · have hcI : ((S.cap : Int) == (S2.cap : Int)) = true := by rw [beq_iff_eq]; omega
    have hcIb : ((S.cap : Nat) == (S2.cap : Nat)) = true := by rw [beq_iff_eq]; omega
    by_cases hlen : L.length = L2.length
    · have hlI : ((L.length : Int) == (L2.length : Int)) = true := by rw [beq_iff_eq]; omega
      refine' wpAnyH_take (i := 0) (oi := ⟨some 18, _, _, _, _, _⟩) (v := _) rfl (by kernel_rfl) (by kernel_rfl) (by kernel_rfl) (fun _ _ _ h => h) (Or.inl ⟨by rfl, ?y0a⟩) hS0 ?r0a
      case y0a => (intro w' hSw; obtain ⟨s0, s1, s2, s3, s4, s5, s6, s7⟩ := hSw; go_simp; try rfl)
      try simp only [Act.put, List.setIfInBounds_toArray, List.set_cons_zero, List.set_cons_succ]
      refine' wpAnyH_take (i := 1) (oi := ⟨some 19, _, _, _, _, _⟩) (v := _) rfl (by kernel_rfl) (by kernel_rfl) (by kernel_rfl) (fun _ _ _ h => h) (Or.inl ⟨by rfl, ?y1a⟩) hS0 ?r1a
      case y1a => (intro w' hSw; obtain ⟨s0, s1, s2, s3, s4, s5, s6, s7⟩ := hSw; go_simp; try rfl)
      try simp only [Act.put, List.setIfInBounds_toArray, List.set_cons_zero, List.set_cons_succ]
      refine' wpAnyH_take (i := 2) (oi := ⟨some 20, _, _, _, _, _⟩) (v := _) rfl (by kernel_rfl) (by kernel_rfl) (by kernel_rfl) (fun _ _ _ h => h) (Or.inl ⟨by rfl, ?y2a⟩) hS0 ?r2a
      case y2a => (intro w' hSw; obtain ⟨s0, s1, s2, s3, s4, s5, s6, s7⟩ := hSw; go_simp; try rfl)
      try simp only [Act.put, List.setIfInBounds_toArray, List.set_cons_zero, List.set_cons_succ]
      refine' wpAnyH_take (i := 3) (oi := ⟨some 21, _, _, _, _, _⟩) (v := _) rfl (by kernel_rfl) (by kernel_rfl) (by kernel_rfl) (fun _ _ _ h => h) (Or.inl ⟨by rfl, ?y3a⟩) hS0 ?r3a
      case y3a => (intro w' hSw; obtain ⟨s0, s1, s2, s3, s4, s5, s6, s7⟩ := hSw; go_simp; try rfl)
      try simp only [Act.put, List.setIfInBounds_toArray, List.set_cons_zero, List.set_cons_succ]
      refine' wpAnyH_take (i := 4) (oi := ⟨some 22, _, _, _, _, _⟩) (v := _) rfl (by kernel_rfl) (by kernel_rfl) (by kernel_rfl) (fun _ _ _ h => h) (Or.inl ⟨by rfl, ?y4a⟩) hS0 ?r4a
      case y4a => (intro w' hSw; obtain ⟨s0, s1, s2, s3, s4, s5, s6, s7⟩ := hSw; go_simp; try rfl)
      try simp only [Act.put, List.setIfInBounds_toArray, List.set_cons_zero, List.set_cons_succ]
      refine' wpAnyH_take (i := 5) (oi := ⟨some 23, _, _, _, _, _⟩) (v := _) rfl (by kernel_rfl) (by kernel_rfl) (by kernel_rfl) (fun _ _ _ h => h) (Or.inl ⟨by rfl, ?y5a⟩) hS0 ?r5a
      case y5a => (intro w' hSw; obtain ⟨s0, s1, s2, s3, s4, s5, s6, s7⟩ := hSw; go_simp; try rfl)
      try simp only [Act.put, List.setIfInBounds_toArray, List.set_cons_zero, List.set_cons_succ]
      refine' wpAnyH_take (i := 6) (oi := ⟨some 24, _, _, _, _, _⟩) (v := _) rfl (by kernel_rfl) (by kernel_rfl) (by kernel_rfl) (fun _ _ _ h => h) (Or.inl ⟨by rfl, ?y6a⟩) hS0 ?r6a
      case y6a => (intro w' hSw; obtain ⟨s0, s1, s2, s3, s4, s5, s6, s7⟩ := hSw; go_simp; try rfl)
      try simp only [Act.put, List.setIfInBounds_toArray, List.set_cons_zero, List.set_cons_succ]
      refine' wpAnyH_take (i := 7) (oi := ⟨some 25, _, _, _, _, _⟩) (v := _) rfl (by kernel_rfl) (by kernel_rfl) (by kernel_rfl) (fun _ _ _ h => h) (Or.inl ⟨by rfl, ?y7a⟩) hS0 ?r7a
      case y7a => (intro w' hSw; obtain ⟨s0, s1, s2, s3, s4, s5, s6, s7⟩ := hSw; go_simp; try rfl)
      try simp only [Act.put, List.setIfInBounds_toArray, List.set_cons_zero, List.set_cons_succ]
      refine' wpAnyH_take (i := 8) (oi := ⟨some 26, _, _, _, _, _⟩) (v := _) rfl (by kernel_rfl) (by kernel_rfl) (by kernel_rfl) (fun _ _ _ h => h) (Or.inl ⟨by rfl, ?y8a⟩) hS0 ?r8a
      case y8a => (intro w' hSw; obtain ⟨s0, s1, s2, s3, s4, s5, s6, s7⟩ := hSw; go_simp; try rfl)
      try simp only [Act.put, List.setIfInBounds_toArray, List.set_cons_zero, List.set_cons_succ]
      refine' wpAnyH_take (i := 9) (oi := ⟨some 27, _, _, _, _, _⟩) (v := _) rfl (by kernel_rfl) (by kernel_rfl) (by kernel_rfl) (fun _ _ _ h => h) (Or.inl ⟨by rfl, ?y9a⟩) hS0 ?r9a
      case y9a => (intro w' hSw; obtain ⟨s0, s1, s2, s3, s4, s5, s6, s7⟩ := hSw; go_simp; try rfl)
      try simp only [Act.put, List.setIfInBounds_toArray, List.set_cons_zero, List.set_cons_succ]
      refine' wpAnyH_take (i := 10) (oi := ⟨some 28, _, _, _, _, _⟩) (v := _) rfl (by kernel_rfl) (by kernel_rfl) (by kernel_rfl) (fun _ _ _ h => h) (Or.inl ⟨by rfl, ?y10a⟩) hS0 ?r10a
      case y10a => (intro w' hSw; obtain ⟨s0, s1, s2, s3, s4, s5, s6, s7⟩ := hSw; go_simp; try rfl)
      try simp only [Act.put, List.setIfInBounds_toArray, List.set_cons_zero, List.set_cons_succ]
      refine' wpAnyH_take (i := 11) (oi := ⟨some 29, _, _, _, _, _⟩) (v := _) rfl (by kernel_rfl) (by kernel_rfl) (by kernel_rfl) (fun _ _ _ h => h) (Or.inl ⟨by rfl, ?y11a⟩) hS0 ?r11a
      case y11a => (intro w' hSw; obtain ⟨s0, s1, s2, s3, s4, s5, s6, s7⟩ := hSw; go_simp; try rfl)
      try simp only [Act.put, List.setIfInBounds_toArray, List.set_cons_zero, List.set_cons_succ]
      refine' wpAnyH_take (i := 12) (oi := ⟨some 30, _, _, _, _, _⟩) (v := _) rfl (by kernel_rfl) (by kernel_rfl) (by kernel_rfl) (fun _ _ _ h => h) (Or.inl ⟨by rfl, ?y12a⟩) hS0 ?r12a
      case y12a => (intro w' hSw; obtain ⟨s0, s1, s2, s3, s4, s5, s6, s7⟩ := hSw; go_simp; try rfl)
      try simp only [Act.put, List.setIfInBounds_toArray, List.set_cons_zero, List.set_cons_succ]
      refine' wpAnyH_take (i := 13) (oi := ⟨some 31, _, _, _, _, _⟩) (v := _) rfl (by kernel_rfl) (by kernel_rfl) (by kernel_rfl) (fun _ _ _ h => h) (Or.inl ⟨by rfl, ?y13a⟩) hS0 ?r13a
      case y13a => (intro w' hSw; obtain ⟨s0, s1, s2, s3, s4, s5, s6, s7⟩ := hSw; go_simp; try rfl)
      try simp only [Act.put, List.setIfInBounds_toArray, List.set_cons_zero, List.set_cons_succ]
      refine' wpAnyH_take (i := 14) (oi := ⟨some 32, _, _, _, _, _⟩) (v := _) rfl (by kernel_rfl) (by kernel_rfl) (by kernel_rfl) (fun _ _ _ h => h) (Or.inl ⟨by rfl, ?y14a⟩) hS0 ?r14a
      case y14a => (intro w' hSw; obtain ⟨s0, s1, s2, s3, s4, s5, s6, s7⟩ := hSw; have e := World.ownsMap.len s6 Try.underlying61 3; rw [size_DE] at e; go_simp; try rfl)
      try simp only [Act.put, List.setIfInBounds_toArray, List.set_cons_zero, List.set_cons_succ]
      refine' wpAnyH_take (i := 15) (oi := ⟨some 33, _, _, _, _, _⟩) (v := _) rfl (by kernel_rfl) (by kernel_rfl) (by kernel_rfl) (fun _ _ _ h => h) (Or.inl ⟨by rfl, ?y15a⟩) hS0 ?r15a
      case y15a => (intro w' hSw; obtain ⟨s0, s1, s2, s3, s4, s5, s6, s7⟩ := hSw; go_simp; try rfl)
      try simp only [Act.put, List.setIfInBounds_toArray, List.set_cons_zero, List.set_cons_succ]
      refine' wpAnyH_take (i := 16) (oi := ⟨some 34, _, _, _, _, _⟩) (v := _) rfl (by kernel_rfl) (by kernel_rfl) (by kernel_rfl) (fun _ _ _ h => h) (Or.inl ⟨by rfl, ?y16a⟩) hS0 ?r16a
      case y16a => (intro w' hSw; obtain ⟨s0, s1, s2, s3, s4, s5, s6, s7⟩ := hSw; go_simp; try rfl)
      try simp only [Act.put, List.setIfInBounds_toArray, List.set_cons_zero, List.set_cons_succ]
      refine' wpAnyH_take (i := 17) (oi := ⟨some 35, _, _, _, _, _⟩) (v := _) rfl (by kernel_rfl) (by kernel_rfl) (by kernel_rfl) (fun _ _ _ h => h) (Or.inl ⟨by rfl, ?y17a⟩) hS0 ?r17a
      case y17a => (intro w' hSw; obtain ⟨s0, s1, s2, s3, s4, s5, s6, s7⟩ := hSw; go_simp; try rfl)
      try simp only [Act.put, List.setIfInBounds_toArray, List.set_cons_zero, List.set_cons_succ]
      refine' wpAnyH_take (i := 18) (oi := ⟨some 36, _, _, _, _, _⟩) (v := _) rfl (by kernel_rfl) (by kernel_rfl) (by kernel_rfl) (fun _ _ _ h => h) (Or.inl ⟨by rfl, ?y18a⟩) hS0 ?r18a
      case y18a => (intro w' hSw; obtain ⟨s0, s1, s2, s3, s4, s5, s6, s7⟩ := hSw; go_simp; try rfl)
      try simp only [Act.put, List.setIfInBounds_toArray, List.set_cons_zero, List.set_cons_succ]
      refine' wpAnyH_take (i := 19) (oi := ⟨some 37, _, _, _, _, _⟩) (v := _) rfl (by kernel_rfl) (by kernel_rfl) (by kernel_rfl) (fun _ _ _ h => h) (Or.inl ⟨by rfl, ?y19a⟩) hS0 ?r19a
      case y19a => (intro w' hSw; obtain ⟨s0, s1, s2, s3, s4, s5, s6, s7⟩ := hSw; have e := World.ownsMap.len s7 Try.underlying61 3; rw [size_DE] at e; go_simp; try rfl)
      try simp only [Act.put, List.setIfInBounds_toArray, List.set_cons_zero, List.set_cons_succ]
      refine' wpAnyH_take (i := 20) (oi := ⟨some 38, _, _, _, _, _⟩) (v := _) rfl (by kernel_rfl) (by kernel_rfl) (by kernel_rfl) (fun _ _ _ h => h) (Or.inl ⟨by rfl, ?y20a⟩) hS0 ?r20a
      case y20a => (intro w' hSw; obtain ⟨s0, s1, s2, s3, s4, s5, s6, s7⟩ := hSw; go_simp; try rfl)
      try simp only [Act.put, List.setIfInBounds_toArray, List.set_cons_zero, List.set_cons_succ]
      refine' wpAnyH_take (i := 21) (oi := ⟨some 39, _, _, _, _, _⟩) (v := _) rfl (by kernel_rfl) (by kernel_rfl) (by kernel_rfl) (fun _ _ _ h => h) (Or.inl ⟨by rfl, ?y21a⟩) hS0 ?r21a
      case y21a => (intro w' hSw; obtain ⟨s0, s1, s2, s3, s4, s5, s6, s7⟩ := hSw; go_simp; try rfl)
      try simp only [Act.put, List.setIfInBounds_toArray, List.set_cons_zero, List.set_cons_succ]
      refine wpAnyH_done (by kernel_rfl) ?_ _
      dsimp only [OnlyNormal]
      clear hS0
      have HLN := Lib.hid (And.intro hcap hlen)
      clear hcap hlen hcI hcIb hlI
      have z0 : W1.cell? ⟨w.heap.size, 0, none⟩ = some (.pointer (some ⟨p, 0, none⟩)) := by rw [HI2.out.2.1.cell]; rfl
      have hfi := files_any (HD.out.below HI2.out.1)
      have HFI := Lib.hid hfi
      clear hfi
      gi_wp2_with fail
      refine ⟨trivial, (callsIn_wide.2 HFI.out).mono ?_⟩
      rintro e w4 ⟨rfl, hnt, hb4⟩
      have hni := hnt.at (Nat.le_refl _) (Nat.le_succ _)
      have hz1 := HI2.out.2.2.2.2
      rw [hz1] at hni ⊢
      have hz4 : w.heap.size + 1 + 1 + 1 ≤ w4.heap.size := by have := hb4.size; omega
      have hst := each_stops Fence.wide 7 trivial rfl (by omega) (w.heap.size + 1 + 1 + 1) (w.heap.size + 1 + 1 + 1 + 1) (w.heap.size + 1 + 1 + 1) w4.heap.size (L.map Fo.nm) (L.map fun f => f.bs.length) (by simp) (by simp; exact HFEW.out.1) w4 (Nat.le_refl _) hni
      have HST := Lib.hid hst
      have hi0 : SmI w p q w4.heap.size L L2 [] w4 := ⟨HI2.out.1.trans (hb4.mono HI2.out.1.size), Nat.le_refl _, HI2.out.2.1.below hb4 HI2.out.2.1.lt, HI2.out.2.2.1.below hb4 HI2.out.2.2.1.lt, HI2.out.2.2.2.1.below hb4 HI2.out.2.2.2.1.lt, fun x hx => by cases hx⟩
      have HI0 := Lib.hid hi0
      clear hnt hni hst hi0 f2 q2 HCF HBF hb4
      gi_wp2_with fail
      refine' wpIn_rangeFunc_ownG rfl (by omega) (gf := 51) (lb := #[.pointer (some ⟨w.heap.size + 1 + 1 + 1, 0, none⟩), .pointer (some ⟨w.heap.size + 1 + 1 + 1 + 1, 0, none⟩)]) rfl trivial (enters_of Try.func51 (by kernel_rfl) rfl)
        HST.out (fun {A B C} h k => Mid.trans h k) (Mid.putObj (Nat.le_refl _)) (Below.refl _ _) (fun _ => rfl)
        (SmI w p q w4.heap.size L L2) (SmX w (sameP S S2 L L2)) (SmI.own (by omega)) (SmX.own (by omega) _) HI0.out _ ?assign ?body ?done ?stop
      case assign =>
        intro l x W K hK
        dsimp only [encE]
        gi_wp2
        exact hK
      case body =>
        intro l pre x W hI hlen
        obtain ⟨hb, hs, b1, b2, b3, h4⟩ := hI
        obtain ⟨f, hf, hx⟩ := ent_is x
        have hx1 : x.1.1 = f.nm := by rw [hx]
        have hx2 : x.1.2 = f.bs.length := by rw [hx]
        rw [hx1, hx2]
        obtain ⟨s, hsn⟩ : ∃ s : ByteArray, s = ⟨f.nm.toArray⟩ := ⟨_, rfl⟩
        have hsl : s.data.toList = f.nm := by rw [hsn]
        rw [← hsn]
        have hdr := HD.out.below hb
        have hqr := HQ.out.below hb
        have hss : s.size ≤ maxLen := by
          have h1 := (hdr.file f hf).may
          rw [← hsl] at h1
          have := may_size h1; unfold maxLen; omega
        obtain ⟨r, hr⟩ : ∃ r, fsB L2 f = r := ⟨_, rfl⟩
        have HSM := Lib.hid (show ∀ X, Dk X p m S L → Dk X q mq S2 L2 → Calls Try.prog 48 #[.pointer (some ⟨f.g, 0, none⟩), ptrOf (find L2 f.nm)] X fun e w' => e = .returned (.bool r) ∧ Below X.heap.size X w' from fun X h1 h2 => hr ▸ fs_any h1 h2 f hf)
        have HSS := Lib.hid hss
        have HSL := Lib.hid hsl
        have HFM := Lib.hid (find_of_mem hdr.rise hf)
        have HNX := Lib.hid (show ∀ X Y, Below X.heap.size X Y → (X.cell? ⟨w.heap.size, 0, none⟩ = some (.pointer (some ⟨p, 0, none⟩)) ∧ X.cell? ⟨w.heap.size + 1, 0, none⟩ = some (.pointer (some ⟨q, 0, none⟩)) ∧ Dk X p m S L ∧ Dk X q mq S2 L2) → (Y.cell? ⟨w.heap.size, 0, none⟩ = some (.pointer (some ⟨p, 0, none⟩)) ∧ Y.cell? ⟨w.heap.size + 1, 0, none⟩ = some (.pointer (some ⟨q, 0, none⟩)) ∧ Dk Y p m S L ∧ Dk Y q mq S2 L2) from
          fun X Y hXY h => ⟨(hXY.cell (World.block_lt_of_cell? X _ h.1)).trans h.1, (hXY.cell (World.block_lt_of_cell? X _ h.2.1)).trans h.2.1, h.2.2.1.below hXY, h.2.2.2.below hXY⟩)
        have hSW : W.cell? ⟨w.heap.size, 0, none⟩ = some (.pointer (some ⟨p, 0, none⟩)) ∧ W.cell? ⟨w.heap.size + 1, 0, none⟩ = some (.pointer (some ⟨q, 0, none⟩)) ∧ Dk W p m S L ∧ Dk W q mq S2 L2 := ⟨by rw [b1.cell]; rfl, by rw [b2.cell]; rfl, hdr, hqr⟩
        have HSW := Lib.hid hSW
        have HX := Lib.hid hx
        have HF := Lib.hid hf
        have HFR := Lib.hid hr
        have HI3 := Lib.hid (And.intro hb (And.intro hs (And.intro b1 (And.intro b2 (And.intro b3 h4)))))
        clear hb hs b1 b2 b3 h4 hf hx hx1 hx2 hsn hsl hdr hqr hss hr hSW hlen
        gi_wp2_with fail
        refine wpIn_region_held_round (S := fun X => X.cell? ⟨w.heap.size, 0, none⟩ = some (.pointer (some ⟨p, 0, none⟩)) ∧ X.cell? ⟨w.heap.size + 1, 0, none⟩ = some (.pointer (some ⟨q, 0, none⟩)) ∧ Dk X p m S L ∧ Dk X q mq S2 L2) hfo (by kernel_rfl) (fun _ _ h => h) (HNX.out W _ (Below.refl _ _).drew HSW.out) (fun hS0 => ?_)
        have HWD := Lib.hid (show Below W.heap.size W W.drew from (Below.refl _ _).drew)
        generalize W.drew = W2 at hS0 HWD ⊢
        refine' wpAnyH_take (i := 0) (oi := ⟨some 44, _, _, _, _, _⟩) (v := _) rfl (by kernel_rfl) (by kernel_rfl) (by kernel_rfl) (fun _ _ _ h => h) (Or.inl ⟨by rfl, ?y0⟩) hS0 ?r0
        case y0 => (intro w' hSw; obtain ⟨s0, s1, d1, d2⟩ := hSw; have c1 := d1.c1; have c2 := d2.c1; go_simp; try rfl)
        try simp only [Act.put, List.setIfInBounds_toArray, List.set_cons_zero, List.set_cons_succ]
        refine' wpAnyH_take (i := 1) (oi := ⟨some 45, _, _, _, _, _⟩) (v := _) rfl (by kernel_rfl) (by kernel_rfl) (by kernel_rfl) (fun _ _ _ h => h) (Or.inl ⟨by rfl, ?y1⟩) hS0 ?r1
        case y1 => (intro w' hSw; obtain ⟨s0, s1, d1, d2⟩ := hSw; have c1 := d1.c1; have c2 := d2.c1; go_simp; try rfl)
        try simp only [Act.put, List.setIfInBounds_toArray, List.set_cons_zero, List.set_cons_succ]
        refine' wpAnyH_take (i := 2) (oi := ⟨some 46, _, _, _, _, _⟩) (v := _) rfl (by kernel_rfl) (by kernel_rfl) (by kernel_rfl) (fun _ _ _ h => h) (Or.inl ⟨by rfl, ?y2⟩) hS0 ?r2
        case y2 => (intro w' hSw; obtain ⟨s0, s1, d1, d2⟩ := hSw; have c1 := d1.c1; have c2 := d2.c1; go_simp; try rfl)
        try simp only [Act.put, List.setIfInBounds_toArray, List.set_cons_zero, List.set_cons_succ]
        refine' wpAnyH_take (i := 3) (oi := ⟨some 47, _, _, _, _, _⟩) (v := _) rfl (by kernel_rfl) (by kernel_rfl) (by kernel_rfl) (fun _ _ _ h => h) (Or.inl ⟨by rfl, ?y3⟩) hS0 ?r3
        case y3 => (intro w' hSw; obtain ⟨s0, s1, d1, d2⟩ := hSw; have c1 := d1.c1; have c2 := d2.c1; go_simp; try rfl)
        try simp only [Act.put, List.setIfInBounds_toArray, List.set_cons_zero, List.set_cons_succ]
        refine' wpAnyH_take (i := 4) (oi := ⟨some 48, _, _, _, _, _⟩) (v := _) rfl (by kernel_rfl) (by kernel_rfl) (by kernel_rfl) (fun _ _ _ h => h) (Or.inl ⟨by rfl, ?y4⟩) hS0 ?r4
        case y4 => (intro w' hSw; obtain ⟨s0, s1, d1, d2⟩ := hSw; have c1 := d1.c1; have c2 := d2.c1; go_simp; try rfl)
        try simp only [Act.put, List.setIfInBounds_toArray, List.set_cons_zero, List.set_cons_succ]
        refine' wpAnyH_take (i := 5) (oi := ⟨some 49, _, _, _, _, _⟩) (v := _) rfl (by kernel_rfl) (by kernel_rfl) (by kernel_rfl) (fun _ _ _ h => h) (Or.inl ⟨by rfl, ?y5⟩) hS0 ?r5
        case y5 => (intro w' hSw; obtain ⟨s0, s1, d1, d2⟩ := hSw; have c1 := d1.c1; have c2 := d2.c1; have e := d1.look s HSS.out; rw [HSL.out, HFM.out] at e; simp only [ptrOf] at e; go_simp; try rfl)
        try simp only [Act.put, List.setIfInBounds_toArray, List.set_cons_zero, List.set_cons_succ]
        refine' wpAnyH_take (i := 6) (oi := ⟨some 50, _, _, _, _, _⟩) (v := _) rfl (by kernel_rfl) (by kernel_rfl) (by kernel_rfl) (fun _ _ _ h => h) (Or.inl ⟨by rfl, ?y6⟩) hS0 ?r6
        case y6 => (intro w' hSw; obtain ⟨s0, s1, d1, d2⟩ := hSw; have c1 := d1.c1; have c2 := d2.c1; go_simp; try rfl)
        try simp only [Act.put, List.setIfInBounds_toArray, List.set_cons_zero, List.set_cons_succ]
        refine' wpAnyH_take (i := 7) (oi := ⟨some 51, _, _, _, _, _⟩) (v := _) rfl (by kernel_rfl) (by kernel_rfl) (by kernel_rfl) (fun _ _ _ h => h) (Or.inl ⟨by rfl, ?y7⟩) hS0 ?r7
        case y7 => (intro w' hSw; obtain ⟨s0, s1, d1, d2⟩ := hSw; have c1 := d1.c1; have c2 := d2.c1; go_simp; try rfl)
        try simp only [Act.put, List.setIfInBounds_toArray, List.set_cons_zero, List.set_cons_succ]
        refine' wpAnyH_take (i := 8) (oi := ⟨some 52, _, _, _, _, _⟩) (v := _) rfl (by kernel_rfl) (by kernel_rfl) (by kernel_rfl) (fun _ _ _ h => h) (Or.inl ⟨by rfl, ?y8⟩) hS0 ?r8
        case y8 => (intro w' hSw; obtain ⟨s0, s1, d1, d2⟩ := hSw; have c1 := d1.c1; have c2 := d2.c1; go_simp; try rfl)
        try simp only [Act.put, List.setIfInBounds_toArray, List.set_cons_zero, List.set_cons_succ]
        refine' wpAnyH_take (i := 9) (oi := ⟨some 53, _, _, _, _, _⟩) (v := _) rfl (by kernel_rfl) (by kernel_rfl) (by kernel_rfl) (fun _ _ _ h => h) (Or.inl ⟨by rfl, ?y9⟩) hS0 ?r9
        case y9 => (intro w' hSw; obtain ⟨s0, s1, d1, d2⟩ := hSw; have c1 := d1.c1; have c2 := d2.c1; go_simp; try rfl)
        try simp only [Act.put, List.setIfInBounds_toArray, List.set_cons_zero, List.set_cons_succ]
        refine' wpAnyH_take (i := 10) (oi := ⟨some 54, _, _, _, _, _⟩) (v := _) rfl (by kernel_rfl) (by kernel_rfl) (by kernel_rfl) (fun _ _ _ h => h) (Or.inl ⟨by rfl, ?y10⟩) hS0 ?r10
        case y10 => (intro w' hSw; obtain ⟨s0, s1, d1, d2⟩ := hSw; have c1 := d1.c1; have c2 := d2.c1; go_simp; try rfl)
        try simp only [Act.put, List.setIfInBounds_toArray, List.set_cons_zero, List.set_cons_succ]
        refine' wpAnyH_take (i := 11) (oi := ⟨some 55, _, _, _, _, _⟩) (v := _) rfl (by kernel_rfl) (by kernel_rfl) (by kernel_rfl) (fun _ _ _ h => h) (Or.inl ⟨by rfl, ?y11⟩) hS0 ?r11
        case y11 => (intro w' hSw; obtain ⟨s0, s1, d1, d2⟩ := hSw; have c1 := d1.c1; have c2 := d2.c1; have e := d2.look s HSS.out; rw [HSL.out] at e; go_simp; try rfl)
        try simp only [Act.put, List.setIfInBounds_toArray, List.set_cons_zero, List.set_cons_succ]
        refine held_one (i := 12) (by kernel_rfl) rfl (fun K hK => ?_)
        go_simp
        refine (HSM.out _ hS0.2.2.1 hS0.2.2.2).mono ?_
        rintro e w3 ⟨rfl, hb3⟩
        have hS3 := HNX.out _ _ hb3 hS0
        have HB3 := Lib.hid hb3
        clear hb3
        refine hK.out _ _ hS3 (fun _ => ?_)
        clear hK K
        try simp only [Act.put, List.setIfInBounds_toArray, List.set_cons_zero, List.set_cons_succ]
        refine' wpAnyH_take (i := 13) (oi := ⟨some 57, _, _, _, _, _⟩) (v := _) rfl (by kernel_rfl) (by kernel_rfl) (by kernel_rfl) (fun _ _ _ h => h) (Or.inl ⟨by rfl, ?y13⟩) hS3 ?r13
        case y13 => (intro w' hSw; obtain ⟨s0, s1, d1, d2⟩ := hSw; have c1 := d1.c1; have c2 := d2.c1; go_simp; try rfl)
        try simp only [Act.put, List.setIfInBounds_toArray, List.set_cons_zero, List.set_cons_succ]
        refine wpAnyH_done (by kernel_rfl) ?_ _
        have hb3 : Below W.heap.size W w3 := HWD.out.trans (HB3.out.mono HWD.out.size)
        have hb03 := HI3.out.1.trans (hb3.mono HI3.out.1.size)
        cases r with
        | true =>
          have hkf := keepsFrom_of_keep (B := w4.heap.size) (T := fun _ => False) (Keep.of_below hb3) (fun i e => e.elim)
          have hmd : Mid (w.heap.size + 1 + 1 + 1) w4.heap.size W w3 := Mid.of_keep (Keep.of_below (S := fun _ => False) hb3) HI3.out.2.1 (fun k h1 h2 e => e)
          have hI1 : SmI w p q w4.heap.size L L2 (pre ++ [x]) w3 := ⟨hb03, Nat.le_trans HI3.out.2.1 hb3.size, HI3.out.2.2.1.below hb3 HI3.out.2.2.1.lt, HI3.out.2.2.2.1.below hb3 HI3.out.2.2.2.1.lt, HI3.out.2.2.2.2.1.below hb3 HI3.out.2.2.2.2.1.lt, fun y hy => by
            rcases List.mem_append.1 hy with hy | hy
            · exact HI3.out.2.2.2.2.2 y hy
            · obtain rfl := List.mem_singleton.1 hy
              exact ⟨f, HF.out, HX.out, (fsB_iff HQ.out.rise f).1 HFR.out⟩⟩
          have HE := Lib.hid (And.intro hkf (And.intro hmd hI1))
          clear hkf hmd hI1 hb3 hb03 hS3 hS0
          gi_wp2
          exact ⟨HE.out.1, HE.out.2.1, HE.out.2.2⟩
        | false =>
          have hB3 := HI3.out.2.2.2.2.1.below hb3 HI3.out.2.2.2.2.1.lt
          have hkk : Keep (fun i => i = w.heap.size + 1 + 1) W (w3.setCell ⟨w.heap.size + 1 + 1, 0, none⟩ (.bool false)) := (Keep.of_below (S := fun i => i = w.heap.size + 1 + 1) hb3).trans (Keep.setCell (S := fun i => i = w.heap.size + 1 + 1) _ _ _ rfl) (fun _ h => h) (fun _ _ h => h)
          have hkf := keepsFrom_of_keep (B := w4.heap.size) hkk (fun i e => by omega)
          have hr : sameP S S2 L L2 = false := decide_eq_false (fun h => by
            have h1 : f.p ∈ plain L := List.mem_map.2 ⟨f, HF.out, rfl⟩
            rw [h.2] at h1
            have := (fsB_iff HQ.out.rise f).2 h1
            rw [HFR.out] at this
            cases this)
          have hX1 : SmX (L := L) w (sameP S S2 L L2) .ret (pre ++ [x]) (w3.setCell ⟨w.heap.size + 1 + 1, 0, none⟩ (.bool false)) := ⟨hb03.setCell (p := ⟨w.heap.size + 1 + 1, 0, none⟩) (by show w.heap.size ≤ w.heap.size + 1 + 1; omega) _, rfl, by rw [hr]; exact hB3.set_ 0 _⟩
          have z2 := hB3.frozen 0
          have q2 : w3.cell? ⟨w.heap.size + 1 + 1, 0, none⟩ = some (.bool false) := by rw [hB3.cell]; rfl
          have HE := Lib.hid (And.intro hkf hX1)
          clear hkf hX1 hb3 hb03 hS3 hS0 hB3 hkk hr
          gi_wp2
          exact ⟨HE.out.1, HE.out.2⟩
      case done =>
        rintro D xs W hD' rfl ⟨hb, hs, b1, b2, b3, h4⟩ hKd
        have hr : sameP S S2 L L2 = true := decide_eq_true ⟨HLN.out.1, (rise_sub (rise_plain HD.out.rise) (rise_plain HQ.out.rise) (fun y hy => by
          obtain ⟨f, hf, rfl⟩ := List.mem_map.1 hy
          have hm : (f.nm, f.bs.length) ∈ (L.map Fo.nm).zip (L.map fun f => f.bs.length) := by rw [zip_L]; exact List.mem_map.2 ⟨f, hf, rfl⟩
          obtain ⟨f', hf', e, h5⟩ := h4 ⟨_, hm⟩ (List.mem_attach _ _)
          have e1 : f.nm = f'.nm := congrArg (·.1) e
          rw [rise_one HD.out.rise hf hf' e1]
          exact h5)).2 (by rw [plain_len, plain_len]; exact HLN.out.2)⟩
        have HR := Lib.hid hr
        have z2 := b3.frozen 0
        have q2 : W.cell? ⟨w.heap.size + 1 + 1, 0, none⟩ = some (.bool false) := by rw [b3.cell]; rfl
        have hB3 : Blk (W.setCell ⟨w.heap.size + 1 + 1, 0, none⟩ (.bool true)) (w.heap.size + 1 + 1) 4 #[.bool true] := b3.set_ 0 _
        have hb2 : Below w.heap.size w (W.setCell ⟨w.heap.size + 1 + 1, 0, none⟩ (.bool true)) := hb.setCell (p := ⟨w.heap.size + 1 + 1, 0, none⟩) (by show w.heap.size ≤ w.heap.size + 1 + 1; omega) _
        have hD2 : (W.setCell ⟨w.heap.size + 1 + 1, 0, none⟩ (.bool true)).heap[D]? = some (.deferred (some [])) := (KeepsOthers.setCell W ⟨w.heap.size + 1 + 1, 0, none⟩ (.bool true)).same D _ hKd rfl
        have hgr := grownBy_putObj' (W.setCell ⟨w.heap.size + 1 + 1, 0, none⟩ (.bool true)) D (.deferred none)
        have hBe := hB3.own (B := 0) hgr (fun r e => by injection e with e; subst e; exact ⟨Nat.zero_le _, _, hD2, rfl⟩)
        have hbe := hb2.grown hgr hb2.size (fun k e => by injection e with e; omega)
        have hce : (((W.setCell ⟨w.heap.size + 1 + 1, 0, none⟩ (.bool true)).putObj D (.deferred none))).cell? ⟨w.heap.size + 1 + 1, 0, none⟩ = some (.bool true) := by rw [hBe.cell]; rfl
        have HDD := Lib.hid hD2
        have HE := Lib.hid hbe
        have HC := Lib.hid hce
        clear hb hs b1 b2 b3 h4 hb2 hB3 hD2 hgr hBe hbe hce hKd hr
        gi_wp2
        refine ⟨by simp, .inl ⟨_, _, rfl, run_takeDeferred HDD.out, ?_⟩⟩
        have hc5 := HC.out
        refine ⟨.bool true, ?_, by rw [HR.out], HE.out⟩
        simp [results, Try.f16, go_sem, hc5]
      case stop =>
        rintro D c pre W hD' ⟨k, hk, hpre⟩ ⟨hb, rfl, b3⟩ hKd
        have hgr := grownBy_putObj' W D (.deferred none)
        have hBe := b3.own (B := 0) hgr (fun r e => by injection e with e; subst e; exact ⟨Nat.zero_le _, _, hKd, rfl⟩)
        have hbe := hb.grown hgr hb.size (fun k e => by injection e with e; omega)
        have hc5 : (W.putObj D (.deferred none)).cell? ⟨w.heap.size + 1 + 1, 0, none⟩ = some (.bool (sameP S S2 L L2)) := by rw [hBe.cell]; rfl
        have HC := Lib.hid hc5
        have HE := Lib.hid hbe
        clear hc5 hbe hBe hgr b3 hb
        gi_wp2
        refine ⟨by simp, .inl ⟨_, _, rfl, run_takeDeferred hKd, ?_⟩⟩
        have hc5 := HC.out
        refine ⟨.bool (sameP S S2 L L2), ?_, rfl, HE.out⟩
        simp [results, Try.f16, go_sem, hc5]
    · have hlI : ((L.length : Int) == (L2.length : Int)) = false := by rw [beq_eq_false_iff_ne]; omega
      have hlN : ((L.length : Int) != (L2.length : Int)) = true := by rw [bne_iff_ne]; omega
      have hr : sameP S S2 L L2 = false := decide_eq_false (fun h => hlen (by have := congrArg List.length h.2; rwa [plain_len, plain_len] at this))
      have HR := Lib.hid hr
      clear hr
      refine' wpAnyH_take (i := 0) (oi := ⟨some 18, _, _, _, _, _⟩) (v := _) rfl (by kernel_rfl) (by kernel_rfl) (by kernel_rfl) (fun _ _ _ h => h) (Or.inl ⟨by rfl, ?y0b⟩) hS0 ?r0b
      case y0b => (intro w' hSw; obtain ⟨s0, s1, s2, s3, s4, s5, s6, s7⟩ := hSw; go_simp; try rfl)
      try simp only [Act.put, List.setIfInBounds_toArray, List.set_cons_zero, List.set_cons_succ]
      refine' wpAnyH_take (i := 1) (oi := ⟨some 19, _, _, _, _, _⟩) (v := _) rfl (by kernel_rfl) (by kernel_rfl) (by kernel_rfl) (fun _ _ _ h => h) (Or.inl ⟨by rfl, ?y1b⟩) hS0 ?r1b
      case y1b => (intro w' hSw; obtain ⟨s0, s1, s2, s3, s4, s5, s6, s7⟩ := hSw; go_simp; try rfl)
      try simp only [Act.put, List.setIfInBounds_toArray, List.set_cons_zero, List.set_cons_succ]
      refine' wpAnyH_take (i := 2) (oi := ⟨some 20, _, _, _, _, _⟩) (v := _) rfl (by kernel_rfl) (by kernel_rfl) (by kernel_rfl) (fun _ _ _ h => h) (Or.inl ⟨by rfl, ?y2b⟩) hS0 ?r2b
      case y2b => (intro w' hSw; obtain ⟨s0, s1, s2, s3, s4, s5, s6, s7⟩ := hSw; go_simp; try rfl)
      try simp only [Act.put, List.setIfInBounds_toArray, List.set_cons_zero, List.set_cons_succ]
      refine' wpAnyH_take (i := 3) (oi := ⟨some 21, _, _, _, _, _⟩) (v := _) rfl (by kernel_rfl) (by kernel_rfl) (by kernel_rfl) (fun _ _ _ h => h) (Or.inl ⟨by rfl, ?y3b⟩) hS0 ?r3b
      case y3b => (intro w' hSw; obtain ⟨s0, s1, s2, s3, s4, s5, s6, s7⟩ := hSw; go_simp; try rfl)
      try simp only [Act.put, List.setIfInBounds_toArray, List.set_cons_zero, List.set_cons_succ]
      refine' wpAnyH_take (i := 4) (oi := ⟨some 22, _, _, _, _, _⟩) (v := _) rfl (by kernel_rfl) (by kernel_rfl) (by kernel_rfl) (fun _ _ _ h => h) (Or.inl ⟨by rfl, ?y4b⟩) hS0 ?r4b
      case y4b => (intro w' hSw; obtain ⟨s0, s1, s2, s3, s4, s5, s6, s7⟩ := hSw; go_simp; try rfl)
      try simp only [Act.put, List.setIfInBounds_toArray, List.set_cons_zero, List.set_cons_succ]
      refine' wpAnyH_take (i := 5) (oi := ⟨some 23, _, _, _, _, _⟩) (v := _) rfl (by kernel_rfl) (by kernel_rfl) (by kernel_rfl) (fun _ _ _ h => h) (Or.inl ⟨by rfl, ?y5b⟩) hS0 ?r5b
      case y5b => (intro w' hSw; obtain ⟨s0, s1, s2, s3, s4, s5, s6, s7⟩ := hSw; go_simp; try rfl)
      try simp only [Act.put, List.setIfInBounds_toArray, List.set_cons_zero, List.set_cons_succ]
      refine' wpAnyH_take (i := 6) (oi := ⟨some 24, _, _, _, _, _⟩) (v := _) rfl (by kernel_rfl) (by kernel_rfl) (by kernel_rfl) (fun _ _ _ h => h) (Or.inl ⟨by rfl, ?y6b⟩) hS0 ?r6b
      case y6b => (intro w' hSw; obtain ⟨s0, s1, s2, s3, s4, s5, s6, s7⟩ := hSw; go_simp; try rfl)
      try simp only [Act.put, List.setIfInBounds_toArray, List.set_cons_zero, List.set_cons_succ]
      refine' wpAnyH_take (i := 7) (oi := ⟨some 25, _, _, _, _, _⟩) (v := _) rfl (by kernel_rfl) (by kernel_rfl) (by kernel_rfl) (fun _ _ _ h => h) (Or.inl ⟨by rfl, ?y7b⟩) hS0 ?r7b
      case y7b => (intro w' hSw; obtain ⟨s0, s1, s2, s3, s4, s5, s6, s7⟩ := hSw; go_simp; try rfl)
      try simp only [Act.put, List.setIfInBounds_toArray, List.set_cons_zero, List.set_cons_succ]
      refine' wpAnyH_take (i := 8) (oi := ⟨some 26, _, _, _, _, _⟩) (v := _) rfl (by kernel_rfl) (by kernel_rfl) (by kernel_rfl) (fun _ _ _ h => h) (Or.inl ⟨by rfl, ?y8b⟩) hS0 ?r8b
      case y8b => (intro w' hSw; obtain ⟨s0, s1, s2, s3, s4, s5, s6, s7⟩ := hSw; go_simp; try rfl)
      try simp only [Act.put, List.setIfInBounds_toArray, List.set_cons_zero, List.set_cons_succ]
      refine' wpAnyH_take (i := 9) (oi := ⟨some 27, _, _, _, _, _⟩) (v := _) rfl (by kernel_rfl) (by kernel_rfl) (by kernel_rfl) (fun _ _ _ h => h) (Or.inl ⟨by rfl, ?y9b⟩) hS0 ?r9b
      case y9b => (intro w' hSw; obtain ⟨s0, s1, s2, s3, s4, s5, s6, s7⟩ := hSw; go_simp; try rfl)
      try simp only [Act.put, List.setIfInBounds_toArray, List.set_cons_zero, List.set_cons_succ]
      refine' wpAnyH_take (i := 10) (oi := ⟨some 28, _, _, _, _, _⟩) (v := _) rfl (by kernel_rfl) (by kernel_rfl) (by kernel_rfl) (fun _ _ _ h => h) (Or.inl ⟨by rfl, ?y10b⟩) hS0 ?r10b
      case y10b => (intro w' hSw; obtain ⟨s0, s1, s2, s3, s4, s5, s6, s7⟩ := hSw; go_simp; try rfl)
      try simp only [Act.put, List.setIfInBounds_toArray, List.set_cons_zero, List.set_cons_succ]
      refine' wpAnyH_take (i := 11) (oi := ⟨some 29, _, _, _, _, _⟩) (v := _) rfl (by kernel_rfl) (by kernel_rfl) (by kernel_rfl) (fun _ _ _ h => h) (Or.inl ⟨by rfl, ?y11b⟩) hS0 ?r11b
      case y11b => (intro w' hSw; obtain ⟨s0, s1, s2, s3, s4, s5, s6, s7⟩ := hSw; go_simp; try rfl)
      try simp only [Act.put, List.setIfInBounds_toArray, List.set_cons_zero, List.set_cons_succ]
      refine' wpAnyH_take (i := 12) (oi := ⟨some 30, _, _, _, _, _⟩) (v := _) rfl (by kernel_rfl) (by kernel_rfl) (by kernel_rfl) (fun _ _ _ h => h) (Or.inl ⟨by rfl, ?y12b⟩) hS0 ?r12b
      case y12b => (intro w' hSw; obtain ⟨s0, s1, s2, s3, s4, s5, s6, s7⟩ := hSw; go_simp; try rfl)
      try simp only [Act.put, List.setIfInBounds_toArray, List.set_cons_zero, List.set_cons_succ]
      refine' wpAnyH_take (i := 13) (oi := ⟨some 31, _, _, _, _, _⟩) (v := _) rfl (by kernel_rfl) (by kernel_rfl) (by kernel_rfl) (fun _ _ _ h => h) (Or.inl ⟨by rfl, ?y13b⟩) hS0 ?r13b
      case y13b => (intro w' hSw; obtain ⟨s0, s1, s2, s3, s4, s5, s6, s7⟩ := hSw; go_simp; try rfl)
      try simp only [Act.put, List.setIfInBounds_toArray, List.set_cons_zero, List.set_cons_succ]
      refine' wpAnyH_take (i := 14) (oi := ⟨some 32, _, _, _, _, _⟩) (v := _) rfl (by kernel_rfl) (by kernel_rfl) (by kernel_rfl) (fun _ _ _ h => h) (Or.inl ⟨by rfl, ?y14b⟩) hS0 ?r14b
      case y14b => (intro w' hSw; obtain ⟨s0, s1, s2, s3, s4, s5, s6, s7⟩ := hSw; have e := World.ownsMap.len s6 Try.underlying61 3; rw [size_DE] at e; go_simp; try rfl)
      try simp only [Act.put, List.setIfInBounds_toArray, List.set_cons_zero, List.set_cons_succ]
      refine' wpAnyH_take (i := 15) (oi := ⟨some 33, _, _, _, _, _⟩) (v := _) rfl (by kernel_rfl) (by kernel_rfl) (by kernel_rfl) (fun _ _ _ h => h) (Or.inl ⟨by rfl, ?y15b⟩) hS0 ?r15b
      case y15b => (intro w' hSw; obtain ⟨s0, s1, s2, s3, s4, s5, s6, s7⟩ := hSw; go_simp; try rfl)
      try simp only [Act.put, List.setIfInBounds_toArray, List.set_cons_zero, List.set_cons_succ]
      refine' wpAnyH_take (i := 16) (oi := ⟨some 34, _, _, _, _, _⟩) (v := _) rfl (by kernel_rfl) (by kernel_rfl) (by kernel_rfl) (fun _ _ _ h => h) (Or.inl ⟨by rfl, ?y16b⟩) hS0 ?r16b
      case y16b => (intro w' hSw; obtain ⟨s0, s1, s2, s3, s4, s5, s6, s7⟩ := hSw; go_simp; try rfl)
      try simp only [Act.put, List.setIfInBounds_toArray, List.set_cons_zero, List.set_cons_succ]
      refine' wpAnyH_take (i := 17) (oi := ⟨some 35, _, _, _, _, _⟩) (v := _) rfl (by kernel_rfl) (by kernel_rfl) (by kernel_rfl) (fun _ _ _ h => h) (Or.inl ⟨by rfl, ?y17b⟩) hS0 ?r17b
      case y17b => (intro w' hSw; obtain ⟨s0, s1, s2, s3, s4, s5, s6, s7⟩ := hSw; go_simp; try rfl)
      try simp only [Act.put, List.setIfInBounds_toArray, List.set_cons_zero, List.set_cons_succ]
      refine' wpAnyH_take (i := 18) (oi := ⟨some 36, _, _, _, _, _⟩) (v := _) rfl (by kernel_rfl) (by kernel_rfl) (by kernel_rfl) (fun _ _ _ h => h) (Or.inl ⟨by rfl, ?y18b⟩) hS0 ?r18b
      case y18b => (intro w' hSw; obtain ⟨s0, s1, s2, s3, s4, s5, s6, s7⟩ := hSw; go_simp; try rfl)
      try simp only [Act.put, List.setIfInBounds_toArray, List.set_cons_zero, List.set_cons_succ]
      refine' wpAnyH_take (i := 19) (oi := ⟨some 37, _, _, _, _, _⟩) (v := _) rfl (by kernel_rfl) (by kernel_rfl) (by kernel_rfl) (fun _ _ _ h => h) (Or.inl ⟨by rfl, ?y19b⟩) hS0 ?r19b
      case y19b => (intro w' hSw; obtain ⟨s0, s1, s2, s3, s4, s5, s6, s7⟩ := hSw; have e := World.ownsMap.len s7 Try.underlying61 3; rw [size_DE] at e; go_simp; try rfl)
      try simp only [Act.put, List.setIfInBounds_toArray, List.set_cons_zero, List.set_cons_succ]
      refine' wpAnyH_take (i := 20) (oi := ⟨some 38, _, _, _, _, _⟩) (v := _) rfl (by kernel_rfl) (by kernel_rfl) (by kernel_rfl) (fun _ _ _ h => h) (Or.inl ⟨by rfl, ?y20b⟩) hS0 ?r20b
      case y20b => (intro w' hSw; obtain ⟨s0, s1, s2, s3, s4, s5, s6, s7⟩ := hSw; go_simp; try rfl)
      try simp only [Act.put, List.setIfInBounds_toArray, List.set_cons_zero, List.set_cons_succ]
      refine' wpAnyH_take (i := 21) (oi := ⟨some 39, _, _, _, _, _⟩) (v := _) rfl (by kernel_rfl) (by kernel_rfl) (by kernel_rfl) (fun _ _ _ h => h) (Or.inl ⟨by rfl, ?y21b⟩) hS0 ?r21b
      case y21b => (intro w' hSw; obtain ⟨s0, s1, s2, s3, s4, s5, s6, s7⟩ := hSw; go_simp; try rfl)
      try simp only [Act.put, List.setIfInBounds_toArray, List.set_cons_zero, List.set_cons_succ]
      refine wpAnyH_done (by kernel_rfl) ?_ _
      dsimp only [OnlyNormal]
      gi_wp2
      refine ⟨.bool false, ?_, by rw [HR.out], HBF.out⟩
      have hc5 := HCF.out
      simp [results, Try.f16, go_sem, hc5]
  · have hcI : ((S.cap : Int) == (S2.cap : Int)) = false := by rw [beq_eq_false_iff_ne]; omega
    have hcN : ((S.cap : Int) != (S2.cap : Int)) = true := by rw [bne_iff_ne]; omega
    have hr : sameP S S2 L L2 = false := decide_eq_false (fun h => hcap h.1)
    have HR := Lib.hid hr
    clear hr
    refine' wpAnyH_take (i := 0) (oi := ⟨some 18, _, _, _, _, _⟩) (v := _) rfl (by kernel_rfl) (by kernel_rfl) (by kernel_rfl) (fun _ _ _ h => h) (Or.inl ⟨by rfl, ?y0c⟩) hS0 ?r0c
    case y0c => (intro w' hSw; obtain ⟨s0, s1, s2, s3, s4, s5, s6, s7⟩ := hSw; go_simp; try rfl)
    try simp only [Act.put, List.setIfInBounds_toArray, List.set_cons_zero, List.set_cons_succ]
    refine' wpAnyH_take (i := 1) (oi := ⟨some 19, _, _, _, _, _⟩) (v := _) rfl (by kernel_rfl) (by kernel_rfl) (by kernel_rfl) (fun _ _ _ h => h) (Or.inl ⟨by rfl, ?y1c⟩) hS0 ?r1c
    case y1c => (intro w' hSw; obtain ⟨s0, s1, s2, s3, s4, s5, s6, s7⟩ := hSw; go_simp; try rfl)
    try simp only [Act.put, List.setIfInBounds_toArray, List.set_cons_zero, List.set_cons_succ]
    refine' wpAnyH_take (i := 2) (oi := ⟨some 20, _, _, _, _, _⟩) (v := _) rfl (by kernel_rfl) (by kernel_rfl) (by kernel_rfl) (fun _ _ _ h => h) (Or.inl ⟨by rfl, ?y2c⟩) hS0 ?r2c
    case y2c => (intro w' hSw; obtain ⟨s0, s1, s2, s3, s4, s5, s6, s7⟩ := hSw; go_simp; try rfl)
    try simp only [Act.put, List.setIfInBounds_toArray, List.set_cons_zero, List.set_cons_succ]
    refine' wpAnyH_take (i := 3) (oi := ⟨some 21, _, _, _, _, _⟩) (v := _) rfl (by kernel_rfl) (by kernel_rfl) (by kernel_rfl) (fun _ _ _ h => h) (Or.inl ⟨by rfl, ?y3c⟩) hS0 ?r3c
    case y3c => (intro w' hSw; obtain ⟨s0, s1, s2, s3, s4, s5, s6, s7⟩ := hSw; go_simp; try rfl)
    try simp only [Act.put, List.setIfInBounds_toArray, List.set_cons_zero, List.set_cons_succ]
    refine' wpAnyH_take (i := 4) (oi := ⟨some 22, _, _, _, _, _⟩) (v := _) rfl (by kernel_rfl) (by kernel_rfl) (by kernel_rfl) (fun _ _ _ h => h) (Or.inl ⟨by rfl, ?y4c⟩) hS0 ?r4c
    case y4c => (intro w' hSw; obtain ⟨s0, s1, s2, s3, s4, s5, s6, s7⟩ := hSw; go_simp; try rfl)
    try simp only [Act.put, List.setIfInBounds_toArray, List.set_cons_zero, List.set_cons_succ]
    refine' wpAnyH_take (i := 5) (oi := ⟨some 23, _, _, _, _, _⟩) (v := _) rfl (by kernel_rfl) (by kernel_rfl) (by kernel_rfl) (fun _ _ _ h => h) (Or.inl ⟨by rfl, ?y5c⟩) hS0 ?r5c
    case y5c => (intro w' hSw; obtain ⟨s0, s1, s2, s3, s4, s5, s6, s7⟩ := hSw; go_simp; try rfl)
    try simp only [Act.put, List.setIfInBounds_toArray, List.set_cons_zero, List.set_cons_succ]
    refine' wpAnyH_take (i := 6) (oi := ⟨some 24, _, _, _, _, _⟩) (v := _) rfl (by kernel_rfl) (by kernel_rfl) (by kernel_rfl) (fun _ _ _ h => h) (Or.inl ⟨by rfl, ?y6c⟩) hS0 ?r6c
    case y6c => (intro w' hSw; obtain ⟨s0, s1, s2, s3, s4, s5, s6, s7⟩ := hSw; go_simp; try rfl)
    try simp only [Act.put, List.setIfInBounds_toArray, List.set_cons_zero, List.set_cons_succ]
    refine' wpAnyH_take (i := 7) (oi := ⟨some 25, _, _, _, _, _⟩) (v := _) rfl (by kernel_rfl) (by kernel_rfl) (by kernel_rfl) (fun _ _ _ h => h) (Or.inl ⟨by rfl, ?y7c⟩) hS0 ?r7c
    case y7c => (intro w' hSw; obtain ⟨s0, s1, s2, s3, s4, s5, s6, s7⟩ := hSw; go_simp; try rfl)
    try simp only [Act.put, List.setIfInBounds_toArray, List.set_cons_zero, List.set_cons_succ]
    refine' wpAnyH_take (i := 8) (oi := ⟨some 26, _, _, _, _, _⟩) (v := _) rfl (by kernel_rfl) (by kernel_rfl) (by kernel_rfl) (fun _ _ _ h => h) (Or.inl ⟨by rfl, ?y8c⟩) hS0 ?r8c
    case y8c => (intro w' hSw; obtain ⟨s0, s1, s2, s3, s4, s5, s6, s7⟩ := hSw; go_simp; try rfl)
    try simp only [Act.put, List.setIfInBounds_toArray, List.set_cons_zero, List.set_cons_succ]
    refine' wpAnyH_take (i := 9) (oi := ⟨some 27, _, _, _, _, _⟩) (v := _) rfl (by kernel_rfl) (by kernel_rfl) (by kernel_rfl) (fun _ _ _ h => h) (Or.inl ⟨by rfl, ?y9c⟩) hS0 ?r9c
    case y9c => (intro w' hSw; obtain ⟨s0, s1, s2, s3, s4, s5, s6, s7⟩ := hSw; go_simp; try rfl)
    try simp only [Act.put, List.setIfInBounds_toArray, List.set_cons_zero, List.set_cons_succ]
    refine' wpAnyH_take (i := 10) (oi := ⟨some 28, _, _, _, _, _⟩) (v := undef) rfl (by kernel_rfl) (by kernel_rfl) (by kernel_rfl) (fun _ _ _ h => h) (Or.inr ⟨by rfl, rfl⟩) hS0 ?r10c
    try simp only [Act.put, List.setIfInBounds_toArray, List.set_cons_zero, List.set_cons_succ]
    refine' wpAnyH_take (i := 11) (oi := ⟨some 29, _, _, _, _, _⟩) (v := undef) rfl (by kernel_rfl) (by kernel_rfl) (by kernel_rfl) (fun _ _ _ h => h) (Or.inr ⟨by rfl, rfl⟩) hS0 ?r11c
    try simp only [Act.put, List.setIfInBounds_toArray, List.set_cons_zero, List.set_cons_succ]
    refine' wpAnyH_take (i := 12) (oi := ⟨some 30, _, _, _, _, _⟩) (v := undef) rfl (by kernel_rfl) (by kernel_rfl) (by kernel_rfl) (fun _ _ _ h => h) (Or.inr ⟨by rfl, rfl⟩) hS0 ?r12c
    try simp only [Act.put, List.setIfInBounds_toArray, List.set_cons_zero, List.set_cons_succ]
    refine' wpAnyH_take (i := 13) (oi := ⟨some 31, _, _, _, _, _⟩) (v := undef) rfl (by kernel_rfl) (by kernel_rfl) (by kernel_rfl) (fun _ _ _ h => h) (Or.inr ⟨by rfl, rfl⟩) hS0 ?r13c
    try simp only [Act.put, List.setIfInBounds_toArray, List.set_cons_zero, List.set_cons_succ]
    refine' wpAnyH_take (i := 14) (oi := ⟨some 32, _, _, _, _, _⟩) (v := undef) rfl (by kernel_rfl) (by kernel_rfl) (by kernel_rfl) (fun _ _ _ h => h) (Or.inr ⟨by rfl, rfl⟩) hS0 ?r14c
    try simp only [Act.put, List.setIfInBounds_toArray, List.set_cons_zero, List.set_cons_succ]
    refine' wpAnyH_take (i := 15) (oi := ⟨some 33, _, _, _, _, _⟩) (v := undef) rfl (by kernel_rfl) (by kernel_rfl) (by kernel_rfl) (fun _ _ _ h => h) (Or.inr ⟨by rfl, rfl⟩) hS0 ?r15c
    try simp only [Act.put, List.setIfInBounds_toArray, List.set_cons_zero, List.set_cons_succ]
    refine' wpAnyH_take (i := 16) (oi := ⟨some 34, _, _, _, _, _⟩) (v := undef) rfl (by kernel_rfl) (by kernel_rfl) (by kernel_rfl) (fun _ _ _ h => h) (Or.inr ⟨by rfl, rfl⟩) hS0 ?r16c
    try simp only [Act.put, List.setIfInBounds_toArray, List.set_cons_zero, List.set_cons_succ]
    refine' wpAnyH_take (i := 17) (oi := ⟨some 35, _, _, _, _, _⟩) (v := undef) rfl (by kernel_rfl) (by kernel_rfl) (by kernel_rfl) (fun _ _ _ h => h) (Or.inr ⟨by rfl, rfl⟩) hS0 ?r17c
    try simp only [Act.put, List.setIfInBounds_toArray, List.set_cons_zero, List.set_cons_succ]
    refine' wpAnyH_take (i := 18) (oi := ⟨some 36, _, _, _, _, _⟩) (v := undef) rfl (by kernel_rfl) (by kernel_rfl) (by kernel_rfl) (fun _ _ _ h => h) (Or.inr ⟨by rfl, rfl⟩) hS0 ?r18c
    try simp only [Act.put, List.setIfInBounds_toArray, List.set_cons_zero, List.set_cons_succ]
    refine' wpAnyH_take (i := 19) (oi := ⟨some 37, _, _, _, _, _⟩) (v := undef) rfl (by kernel_rfl) (by kernel_rfl) (by kernel_rfl) (fun _ _ _ h => h) (Or.inr ⟨by rfl, rfl⟩) hS0 ?r19c
    try simp only [Act.put, List.setIfInBounds_toArray, List.set_cons_zero, List.set_cons_succ]
    refine' wpAnyH_take (i := 20) (oi := ⟨some 38, _, _, _, _, _⟩) (v := undef) rfl (by kernel_rfl) (by kernel_rfl) (by kernel_rfl) (fun _ _ _ h => h) (Or.inr ⟨by rfl, rfl⟩) hS0 ?r20c
    try simp only [Act.put, List.setIfInBounds_toArray, List.set_cons_zero, List.set_cons_succ]
    refine' wpAnyH_take (i := 21) (oi := ⟨some 39, _, _, _, _, _⟩) (v := _) rfl (by kernel_rfl) (by kernel_rfl) (by kernel_rfl) (fun _ _ _ h => h) (Or.inl ⟨by rfl, ?y21c⟩) hS0 ?r21c
    case y21c => (intro w' hSw; obtain ⟨s0, s1, s2, s3, s4, s5, s6, s7⟩ := hSw; go_simp; try rfl)
    try simp only [Act.put, List.setIfInBounds_toArray, List.set_cons_zero, List.set_cons_succ]
    refine wpAnyH_done (by kernel_rfl) ?_ _
    dsimp only [OnlyNormal]
    gi_wp2
    refine ⟨.bool false, ?_, by rw [HR.out], HBF.out⟩
    have hc5 := HCF.out
    simp [results, Try.f16, go_sem, hc5]
end
end Go.Proofs.Ytdbkhigocjmfoaa

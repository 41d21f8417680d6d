/-
  add: bytes at the end of a line.
-/
import Derived.Test.YtellbmghahgjfaaNetD
import Derived.Test.YtellbmghahgjfaaHeldA
import Derived.Deep.Cut
namespace Go.Proofs.Ytellbmghahgjfaa
open Go.RowKit Go.Maps Go.WideShapes Go.WideMaps
open NetM
set_option linter.unusedVariables false
set_option linter.unusedSimpArgs false
set_option maxRecDepth 20000

theorem two_lines (w : World) (a b : Sv) : SlK kLn (w.alloc (.cells #[sv a, sv b] 62)) (.slice (some ⟨w.heap.size, 0, none⟩) 2 2) [a, b] := by
  refine ⟨_, 2, rfl, by simp, fun _ => ⟨_, 0, rfl, fun j u hu => ?_⟩⟩
  rw [Nat.zero_add, (Blk.new w _ _).cell, ← Array.getElem?_toList]
  simpa [cellsK, kLn] using hu
section
variable {w w' : World} {p b : Nat} {E lost : Int} {K : Kl} {V : List (Fl Pl)} {G : Nat → Prop}
/-- What add answers and leaves. -/
def AddEnd (w : World) (p b : Nat) (E lost : Int) (V : List (Fl Pl)) (G : Nat → Prop) (q : Pr) (s : Pl) (e : Ending) (w' : World) : Prop :=
  (64 ≤ (lineOf V q).length ∧ e = .returned (.int .i64 5) ∧ Below w.heap.size w w') ∨
  ((lineOf V q).length < 64 ∧ e = .returned (.int .i64 0) ∧ Keep (fun i => i = b) w w' ∧ ∃ K' G', Nt w' p b E lost K' (lay V ⟨q, s⟩) G' ∧ ∀ i, G' i → G i ∨ InB s.1 i ∨ w.heap.size ≤ i)
set_option maxHeartbeats 4000000 in
theorem add_any (h : Nt w p b E lost K V G) (q : Pr) (hq : InR E q) (s : Sv) (bs : List UInt8) (hsl : Sl w (sv s) bs) (hbl : bs.length ≤ 1048576) (hsty : ∀ i, InB s i → ∃ cs t m, w.heap[i]? = some (.cells cs t m) ∧ (t = 5 ∨ t = 37)) :
    Calls Try.prog 38 #[.pointer (some ⟨p, 0, none⟩), .agg #[.int .i64 q.1, .int .i64 q.2], sv s] w (AddEnd w p b E lost V G q (s, bs)) := by
  have hfo : Try.prog.follows .mixedOrders = true := by kernel_rfl
  have hok := hq.ok h.ends.2
  have hb1 : Below w.heap.size w (w.alloc (.cells #[.int .i64 q.1, .int .i64 q.2] 61)) := (Below.refl _ _).alloc (Nat.le_refl _) _
  have hq1 := Blk.new w 61 #[.int .i64 q.1, .int .i64 q.2]
  have h1 := h.below hb1
  obtain ⟨s0, s1, s2⟩ := s
  obtain ⟨⟨A, n, c⟩, hv⟩ : ∃ s, lineAt K q = s := ⟨_, rfl⟩
  have HN := Lib.hid (show n = (lineOf V q).length by have := lineAt_len h q; rw [hv] at this; exact this)
  have hLE := Lib.hid (show 64 ≤ (lineOf V q).length → ∀ w', Below w.heap.size w w' → AddEnd w p b E lost V G q ((s0, s1, s2), bs) (.returned (.int .i64 5)) w' from fun h1 w' h2 => .inl ⟨h1, rfl, h2⟩)
  simp only [sv]
  go_enter Try.func38, Try.ntmps38
  go_upto_region 1 with fail
  change Code.wp _ _ _ _ (w.alloc (.cells #[.int .i64 q.1, .int .i64 q.2] 61))
  generalize w.alloc (.cells #[.int .i64 q.1, .int .i64 q.2] 61) = w1 at hb1 hq1 h1 ⊢
  refine wp_region_held_drew (S := fun X => X = w1.drew) hfo rfl (fun hS0 => ?_)
  have h2 := h1.below (show Below w1.heap.size w1 w1.drew from (Below.refl _ _).drew)
  have hq2 : Blk w1.drew w.heap.size 61 #[.int .i64 q.1, .int .i64 q.2] := hq1
  have hb2 := hb1.trans ((show Below w1.heap.size w1 w1.drew from (Below.refl _ _).drew).mono hb1.size)
  clear h1 hq1 hb1
  generalize w1.drew = Z0 at hS0 h2 hq2 hb2 ⊢
  have c1 := h2.c1
  have q0 : Z0.cell? ⟨w.heap.size, 0, none⟩ = some (.int .i64 q.1) := by rw [hq2.cell]; rfl
  have q1 : Z0.cell? ⟨w.heap.size, 1, none⟩ = some (.int .i64 q.2) := by rw [hq2.cell]; rfl
  have HLK := h2.look hok
  rw [hv] at HLK
  simp only [pval, sv] at HLK
  refine' wpAnyH_take (i := 0) (oi := ⟨some 7, _, _, _, _, _⟩) (v := _) rfl (by kernel_rfl) (by kernel_rfl) (by kernel_rfl) (fun _ _ _ h => h) (Or.inl ⟨by rfl, ?y0a⟩) hS0 ?r0a
  case y0a =>
    intro w' hSw
    subst hSw; go_simp
    try rfl
  try simp only [Act.put, List.setIfInBounds_toArray, List.set_cons_zero, List.set_cons_succ]
  refine' wpAnyH_take (i := 1) (oi := ⟨some 8, _, _, _, _, _⟩) (v := _) rfl (by kernel_rfl) (by kernel_rfl) (by kernel_rfl) (fun _ _ _ h => h) (Or.inl ⟨by rfl, ?y1a⟩) hS0 ?r1a
  case y1a =>
    intro w' hSw
    subst hSw; go_simp
    try rfl
  try simp only [Act.put, List.setIfInBounds_toArray, List.set_cons_zero, List.set_cons_succ]
  refine' wpAnyH_take (i := 2) (oi := ⟨some 9, _, _, _, _, _⟩) (v := _) rfl (by kernel_rfl) (by kernel_rfl) (by kernel_rfl) (fun _ _ _ h => h) (Or.inl ⟨by rfl, ?y2a⟩) hS0 ?r2a
  case y2a =>
    intro w' hSw
    subst hSw; go_simp
    try rfl
  try simp only [Act.put, List.setIfInBounds_toArray, List.set_cons_zero, List.set_cons_succ]
  refine' wpAnyH_take (i := 3) (oi := ⟨some 10, _, _, _, _, _⟩) (v := _) rfl (by kernel_rfl) (by kernel_rfl) (by kernel_rfl) (fun _ _ _ h => h) (Or.inl ⟨by rfl, ?y3a⟩) hS0 ?r3a
  case y3a =>
    intro w' hSw
    subst hSw; go_simp
    try rfl
  try simp only [Act.put, List.setIfInBounds_toArray, List.set_cons_zero, List.set_cons_succ]
  refine' wpAnyH_take (i := 4) (oi := ⟨some 11, _, _, _, _, _⟩) (v := _) rfl (by kernel_rfl) (by kernel_rfl) (by kernel_rfl) (fun _ _ _ h => h) (Or.inl ⟨by rfl, ?y4a⟩) hS0 ?r4a
  case y4a =>
    intro w' hSw
    subst hSw; go_simp
    try rfl
  try simp only [Act.put, List.setIfInBounds_toArray, List.set_cons_zero, List.set_cons_succ]
  refine' wpAnyH_take (i := 5) (oi := ⟨some 12, _, _, _, _, _⟩) (v := _) rfl (by kernel_rfl) (by kernel_rfl) (by kernel_rfl) (fun _ _ _ h => h) (Or.inl ⟨by rfl, ?y5a⟩) hS0 ?r5a
  case y5a =>
    intro w' hSw
    subst hSw; go_simp
    try rfl
  try simp only [Act.put, List.setIfInBounds_toArray, List.set_cons_zero, List.set_cons_succ]
  refine' wpAnyH_take (i := 6) (oi := ⟨some 13, _, _, _, _, _⟩) (v := _) rfl (by kernel_rfl) (by kernel_rfl) (by kernel_rfl) (fun _ _ _ h => h) (Or.inl ⟨by rfl, ?y6a⟩) hS0 ?r6a
  case y6a =>
    intro w' hSw
    subst hSw; go_simp
    try rfl
  try simp only [Act.put, List.setIfInBounds_toArray, List.set_cons_zero, List.set_cons_succ]
  refine' wpAnyH_take (i := 7) (oi := ⟨some 14, _, _, _, _, _⟩) (v := _) rfl (by kernel_rfl) (by kernel_rfl) (by kernel_rfl) (fun _ _ _ h => h) (Or.inl ⟨by rfl, ?y7a⟩) hS0 ?r7a
  case y7a =>
    intro w' hSw
    subst hSw; go_simp
    try rfl
  try simp only [Act.put, List.setIfInBounds_toArray, List.set_cons_zero, List.set_cons_succ]
  refine wpAnyH_done (by kernel_rfl) ?_ _
  clear hS0 c1 q0 q1 HLK
  by_cases hfull : 64 ≤ n
  · have hfl : decide ((n : Int) ≥ 64) = true := by simp; omega
    have hf' : 64 ≤ (lineOf V q).length := by rw [← HN.out]; exact hfull
    go_wp2
    go_ret
    exact hLE.out hf' _ hb2
  · have hfl : decide ((n : Int) ≥ 64) = false := by simp; omega
    have hf' : (lineOf V q).length < 64 := by rw [← HN.out]; omega
    go_upto_region 3 with fail
    refine tail_begin 15 (S := fun X => Below Z0.drew.heap.size Z0.drew X) hfo (by kernel_rfl) (Below.refl _ _) (fun hS0 => ?_)
    replace h2 := h2.below (show Below Z0.heap.size Z0 Z0.drew from (Below.refl _ _).drew)
    replace hq2 : Blk Z0.drew w.heap.size 61 #[.int .i64 q.1, .int .i64 q.2] := hq2
    replace hb2 := hb2.trans ((show Below Z0.heap.size Z0 Z0.drew from (Below.refl _ _).drew).mono hb2.size)
    generalize Z0.drew = Z1 at hS0 h2 hq2 hb2 ⊢
    refine' tail_take (i := 0) (oi := ⟨some 15, _, _, _, _, _⟩) (v := _) rfl (by kernel_rfl) (by kernel_rfl) (by decide) (fun _ _ _ h => h) (Or.inl ⟨by rfl, ?y0b⟩) hS0 ?r0b
    case y0b =>
      intro w' hSw
      have c1 := (h2.below hSw).c1; have hqw := hq2.below hSw hq2.lt; have q0 : w'.cell? ⟨w.heap.size, 0, none⟩ = some (.int .i64 q.1) := (by rw [hqw.cell]; rfl); have q1 : w'.cell? ⟨w.heap.size, 1, none⟩ = some (.int .i64 q.2) := (by rw [hqw.cell]; rfl); have HLK := (h2.below hSw).look hok; rw [hv] at HLK; simp only [pval, sv] at HLK
      go_simp
      try rfl
    try simp only [Act.put, List.setIfInBounds_toArray, List.set_cons_zero, List.set_cons_succ]
    refine' tail_take (i := 1) (oi := ⟨some 16, _, _, _, _, _⟩) (v := _) rfl (by kernel_rfl) (by kernel_rfl) (by decide) (fun _ _ _ h => h) (Or.inl ⟨by rfl, ?y1b⟩) hS0 ?r1b
    case y1b =>
      intro w' hSw
      have c1 := (h2.below hSw).c1; have hqw := hq2.below hSw hq2.lt; have q0 : w'.cell? ⟨w.heap.size, 0, none⟩ = some (.int .i64 q.1) := (by rw [hqw.cell]; rfl); have q1 : w'.cell? ⟨w.heap.size, 1, none⟩ = some (.int .i64 q.2) := (by rw [hqw.cell]; rfl); have HLK := (h2.below hSw).look hok; rw [hv] at HLK; simp only [pval, sv] at HLK
      go_simp
      try rfl
    try simp only [Act.put, List.setIfInBounds_toArray, List.set_cons_zero, List.set_cons_succ]
    refine' tail_take (i := 2) (oi := ⟨some 17, _, _, _, _, _⟩) (v := _) rfl (by kernel_rfl) (by kernel_rfl) (by decide) (fun _ _ _ h => h) (Or.inl ⟨by rfl, ?y2b⟩) hS0 ?r2b
    case y2b =>
      intro w' hSw
      have c1 := (h2.below hSw).c1; have hqw := hq2.below hSw hq2.lt; have q0 : w'.cell? ⟨w.heap.size, 0, none⟩ = some (.int .i64 q.1) := (by rw [hqw.cell]; rfl); have q1 : w'.cell? ⟨w.heap.size, 1, none⟩ = some (.int .i64 q.2) := (by rw [hqw.cell]; rfl); have HLK := (h2.below hSw).look hok; rw [hv] at HLK; simp only [pval, sv] at HLK
      go_simp
      try rfl
    try simp only [Act.put, List.setIfInBounds_toArray, List.set_cons_zero, List.set_cons_succ]
    refine' tail_take (i := 3) (oi := ⟨some 18, _, _, _, _, _⟩) (v := _) rfl (by kernel_rfl) (by kernel_rfl) (by decide) (fun _ _ _ h => h) (Or.inl ⟨by rfl, ?y3b⟩) hS0 ?r3b
    case y3b =>
      intro w' hSw
      have c1 := (h2.below hSw).c1; have hqw := hq2.below hSw hq2.lt; have q0 : w'.cell? ⟨w.heap.size, 0, none⟩ = some (.int .i64 q.1) := (by rw [hqw.cell]; rfl); have q1 : w'.cell? ⟨w.heap.size, 1, none⟩ = some (.int .i64 q.2) := (by rw [hqw.cell]; rfl); have HLK := (h2.below hSw).look hok; rw [hv] at HLK; simp only [pval, sv] at HLK
      go_simp
      try rfl
    try simp only [Act.put, List.setIfInBounds_toArray, List.set_cons_zero, List.set_cons_succ]
    refine' tail_take (i := 4) (oi := ⟨some 19, _, _, _, _, _⟩) (v := _) rfl (by kernel_rfl) (by kernel_rfl) (by decide) (fun _ _ _ h => h) (Or.inl ⟨by rfl, ?y4b⟩) hS0 ?r4b
    case y4b =>
      intro w' hSw
      have c1 := (h2.below hSw).c1; have hqw := hq2.below hSw hq2.lt; have q0 : w'.cell? ⟨w.heap.size, 0, none⟩ = some (.int .i64 q.1) := (by rw [hqw.cell]; rfl); have q1 : w'.cell? ⟨w.heap.size, 1, none⟩ = some (.int .i64 q.2) := (by rw [hqw.cell]; rfl); have HLK := (h2.below hSw).look hok; rw [hv] at HLK; simp only [pval, sv] at HLK
      go_simp
      try rfl
    try simp only [Act.put, List.setIfInBounds_toArray, List.set_cons_zero, List.set_cons_succ]
    refine' tail_take (i := 5) (oi := ⟨some 20, _, _, _, _, _⟩) (v := _) rfl (by kernel_rfl) (by kernel_rfl) (by decide) (fun _ _ _ h => h) (Or.inl ⟨by rfl, ?y5b⟩) hS0 ?r5b
    case y5b =>
      intro w' hSw
      have c1 := (h2.below hSw).c1; have hqw := hq2.below hSw hq2.lt; have q0 : w'.cell? ⟨w.heap.size, 0, none⟩ = some (.int .i64 q.1) := (by rw [hqw.cell]; rfl); have q1 : w'.cell? ⟨w.heap.size, 1, none⟩ = some (.int .i64 q.2) := (by rw [hqw.cell]; rfl); have HLK := (h2.below hSw).look hok; rw [hv] at HLK; simp only [pval, sv] at HLK
      go_simp
      try rfl
    try simp only [Act.put, List.setIfInBounds_toArray, List.set_cons_zero, List.set_cons_succ]
    refine' tail_take (i := 6) (oi := ⟨some 21, _, _, _, _, _⟩) (v := _) rfl (by kernel_rfl) (by kernel_rfl) (by decide) (fun _ _ _ h => h) (Or.inl ⟨by rfl, ?y6b⟩) hS0 ?r6b
    case y6b =>
      intro w' hSw
      have c1 := (h2.below hSw).c1; have hqw := hq2.below hSw hq2.lt; have q0 : w'.cell? ⟨w.heap.size, 0, none⟩ = some (.int .i64 q.1) := (by rw [hqw.cell]; rfl); have q1 : w'.cell? ⟨w.heap.size, 1, none⟩ = some (.int .i64 q.2) := (by rw [hqw.cell]; rfl); have HLK := (h2.below hSw).look hok; rw [hv] at HLK; simp only [pval, sv] at HLK
      go_simp
      try rfl
    try simp only [Act.put, List.setIfInBounds_toArray, List.set_cons_zero, List.set_cons_succ]
    refine' tail_take (i := 7) (oi := ⟨some 22, _, _, _, _, _⟩) (v := _) rfl (by kernel_rfl) (by kernel_rfl) (by decide) (fun _ _ _ h => h) (Or.inl ⟨by rfl, ?y7b⟩) hS0 ?r7b
    case y7b =>
      intro w' hSw
      have c1 := (h2.below hSw).c1; have hqw := hq2.below hSw hq2.lt; have q0 : w'.cell? ⟨w.heap.size, 0, none⟩ = some (.int .i64 q.1) := (by rw [hqw.cell]; rfl); have q1 : w'.cell? ⟨w.heap.size, 1, none⟩ = some (.int .i64 q.2) := (by rw [hqw.cell]; rfl); have HLK := (h2.below hSw).look hok; rw [hv] at HLK; simp only [pval, sv] at HLK
      go_simp
      try rfl
    try simp only [Act.put, List.setIfInBounds_toArray, List.set_cons_zero, List.set_cons_succ]
    refine' tail_take (i := 8) (oi := ⟨some 23, _, _, _, _, _⟩) (v := _) rfl (by kernel_rfl) (by kernel_rfl) (by decide) (fun _ _ _ h => h) (Or.inl ⟨by rfl, ?y8b⟩) hS0 ?r8b
    case y8b =>
      intro w' hSw
      have c1 := (h2.below hSw).c1; have hqw := hq2.below hSw hq2.lt; have q0 : w'.cell? ⟨w.heap.size, 0, none⟩ = some (.int .i64 q.1) := (by rw [hqw.cell]; rfl); have q1 : w'.cell? ⟨w.heap.size, 1, none⟩ = some (.int .i64 q.2) := (by rw [hqw.cell]; rfl); have HLK := (h2.below hSw).look hok; rw [hv] at HLK; simp only [pval, sv] at HLK
      go_simp
      try rfl
    try simp only [Act.put, List.setIfInBounds_toArray, List.set_cons_zero, List.set_cons_succ]
    refine' tail_take (i := 9) (oi := ⟨some 24, _, _, _, _, _⟩) (v := _) rfl (by kernel_rfl) (by kernel_rfl) (by decide) (fun _ _ _ h => h) (Or.inl ⟨by rfl, ?y9b⟩) hS0 ?r9b
    case y9b =>
      intro w' hSw
      have c1 := (h2.below hSw).c1; have hqw := hq2.below hSw hq2.lt; have q0 : w'.cell? ⟨w.heap.size, 0, none⟩ = some (.int .i64 q.1) := (by rw [hqw.cell]; rfl); have q1 : w'.cell? ⟨w.heap.size, 1, none⟩ = some (.int .i64 q.2) := (by rw [hqw.cell]; rfl); have HLK := (h2.below hSw).look hok; rw [hv] at HLK; simp only [pval, sv] at HLK
      go_simp
      try rfl
    try simp only [Act.put, List.setIfInBounds_toArray, List.set_cons_zero, List.set_cons_succ]
    refine' tail_take (i := 10) (oi := ⟨some 25, _, _, _, _, _⟩) (v := _) rfl (by kernel_rfl) (by kernel_rfl) (by decide) (fun _ _ _ h => h) (Or.inl ⟨by rfl, ?y10b⟩) hS0 ?r10b
    case y10b =>
      intro w' hSw
      have c1 := (h2.below hSw).c1; have hqw := hq2.below hSw hq2.lt; have q0 : w'.cell? ⟨w.heap.size, 0, none⟩ = some (.int .i64 q.1) := (by rw [hqw.cell]; rfl); have q1 : w'.cell? ⟨w.heap.size, 1, none⟩ = some (.int .i64 q.2) := (by rw [hqw.cell]; rfl); have HLK := (h2.below hSw).look hok; rw [hv] at HLK; simp only [pval, sv] at HLK
      go_simp
      try rfl
    try simp only [Act.put, List.setIfInBounds_toArray, List.set_cons_zero, List.set_cons_succ]
    refine' tail_take (i := 11) (oi := ⟨some 26, _, _, _, _, _⟩) (v := _) rfl (by kernel_rfl) (by kernel_rfl) (by decide) (fun _ _ _ h => h) (Or.inl ⟨by rfl, ?y11b⟩) hS0 ?r11b
    case y11b =>
      intro w' hSw
      have c1 := (h2.below hSw).c1; have hqw := hq2.below hSw hq2.lt; have q0 : w'.cell? ⟨w.heap.size, 0, none⟩ = some (.int .i64 q.1) := (by rw [hqw.cell]; rfl); have q1 : w'.cell? ⟨w.heap.size, 1, none⟩ = some (.int .i64 q.2) := (by rw [hqw.cell]; rfl); have HLK := (h2.below hSw).look hok; rw [hv] at HLK; simp only [pval, sv] at HLK
      go_simp
      try rfl
    try simp only [Act.put, List.setIfInBounds_toArray, List.set_cons_zero, List.set_cons_succ]
    have hA1 : Below Z1.heap.size Z1 (Z1.alloc (.cells #[.slice s0 s1 s2] 37)) := (Below.refl _ _).alloc (Nat.le_refl _) _
    have hO1 := SlK.one (k := kSl) Z1 (s0, s1, s2) #[.slice s0 s1 s2] rfl
    refine tail_one (i := 12) (by kernel_rfl) rfl (by decide) (fun Kc hK => ?_)
    go_simp
    refine hK.out _ _ hA1 (fun _ => ?_)
    clear hK Kc
    try simp only [Act.put, List.setIfInBounds_toArray, List.set_cons_zero, List.set_cons_succ]
    have hA2 : Below Z1.heap.size Z1 ((Z1.alloc (.cells #[.slice s0 s1 s2] 37)).alloc (.cells #[.slice A n c, .slice (some ⟨Z1.heap.size, 0, none⟩) 1 1] 62)) := hA1.alloc (by simp) _
    have hO2 := two_lines (Z1.alloc (.cells #[.slice s0 s1 s2] 37)) (A, n, c) (some ⟨Z1.heap.size, 0, none⟩, 1, 1)
    have hO1' := hO1.below (show Below _ _ ((Z1.alloc (.cells #[.slice s0 s1 s2] 37)).alloc (.cells #[.slice A n c, .slice (some ⟨Z1.heap.size, 0, none⟩) 1 1] 62)) from (Below.refl _ _).alloc (Nat.le_refl _) _)
    have hR1 := (h2.below hA2).row q
    rw [hv] at hR1
    refine tail_one (i := 13) (by kernel_rfl) rfl (by decide) (fun Kc hK => ?_)
    go_simp
    refine hK.out _ _ hA2 (fun _ => ?_)
    clear hK Kc
    try simp only [Act.put, List.setIfInBounds_toArray, List.set_cons_zero, List.set_cons_succ]
    simp only [sv, World.size_alloc] at hO2
    generalize (Z1.alloc (.cells #[.slice s0 s1 s2] 37)).alloc (.cells #[.slice A n c, .slice (some ⟨Z1.heap.size, 0, none⟩) 1 1] 62) = Z2 at hA2 hO2 hO1' hR1 ⊢
    have HCC := Lib.hid (concatL_any _ [((A, n, c), (lineOf V q).map Prod.fst), ((some ⟨Z1.heap.size, 0, none⟩, 1, 1), [(s0, s1, s2)])] Z2 hO2 (by intro x hx; simp at hx; rcases hx with rfl | rfl; exact hR1; exact hO1') (by simp [allOf]; have := h2.full q; omega) (by simp))
    refine tail_one (i := 14) (by kernel_rfl) rfl (by decide) (fun Kc hK => ?_)
    go_simp
    refine HCC.out.mono ?_
    rintro e Z3 ⟨v3, rfl, ho3, hb3⟩
    obtain ⟨x3, rfl⟩ : ∃ x, v3 = sv x := by obtain ⟨A3, c3, rfl⟩ := ho3.shape; exact ⟨(A3, _, c3), rfl⟩
    have hS3 : Below Z1.heap.size Z1 Z3 := hA2.trans (hb3.mono hA2.size)
    refine hK.out _ _ hS3 (fun _ => ?_)
    clear hK Kc
    try simp only [Act.put, List.setIfInBounds_toArray, List.set_cons_zero, List.set_cons_succ]
    clear HCC
    have h3 := h2.below hS3
    have hs3 := (hsl.below hb2).below hS3
    have hall : allOf [((A, n, c), (lineOf V q).map Prod.fst), ((some ⟨Z1.heap.size, 0, none⟩, 1, 1), [((s0, s1, s2) : Sv)])] = (lineOf V q ++ [((s0, s1, s2), bs)]).map Prod.fst := by simp [allOf]
    rw [hall] at ho3
    have ho3' : OwnK kSl Z3 Z1.heap.size (sv x3) ((lineOf V q ++ [((s0, s1, s2), bs)]).map Prod.fst) := ho3.mono hA2.size
    obtain ⟨Z4, hr4, h4, hg4⟩ := h3.put hq x3 (lay V ⟨q, ((s0, s1, s2), bs)⟩) (lineOf V q ++ [((s0, s1, s2), bs)]) (fun i => G i ∨ InB x3 i ∨ InB (s0, s1, s2) i) ho3'.slk (fun r => by rw [lay_line h3.sorted]; by_cases e : q = r; rw [if_pos e, if_pos e, e]; rw [if_neg e, if_neg e]) (lay_sorted h3.sorted _) (fun f hf => by rcases mem_lay.1 hf with rfl | hf; exact .inr ⟨rfl, hs3, hbl, fun i hi => .inr (.inr hi)⟩; exact .inl hf) (by rw [List.length_append]; simp; omega) (fun i hi => .inl hi) (fun i hi => .inr (.inl hi)) (by rintro i (hi | hi | hi); exact h3.gty i hi; obtain ⟨_, cs, m, hh⟩ := own_typed ho3' i hi; exact ⟨cs, _, m, hh, .inr rfl⟩; obtain ⟨cs, t, m, hh, ht⟩ := hsty i hi; have hi' := (Array.getElem?_eq_some_iff.1 hh).1; exact ⟨cs, t, m, (hS3.block i (Nat.lt_of_lt_of_le hi' hb2.size)).trans ((hb2.block i hi').trans hh), ht⟩)
    simp only [pval] at hr4
    refine tail_last (by kernel_rfl) rfl (by kernel_rfl) (fun Kc hK => ?_)
    go_simp
    refine hK.out _ _ ?_
    clear hK Kc
    go_wp2
    go_ret
    refine .inr ⟨hf', rfl, ?_, _, _, h4, ?_⟩
    · exact (Keep.of_below (hb2.trans (hS3.mono hb2.size))).trans (Keep.of_grown hg4 (fun k e => by injection e with e; exact e.symm)) (fun _ h => h) (fun _ _ h => h)
    · rintro i (hi | hi | hi)
      · exact .inl hi
      · have := (own_typed ho3' i hi).1
        have := hb2.size
        exact .inr (.inr (by omega))
      · exact .inr (.inl hi)
end
end Go.Proofs.Ytellbmghahgjfaa

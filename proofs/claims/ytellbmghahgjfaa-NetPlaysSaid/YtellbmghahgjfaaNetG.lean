/-
  flight: the flight at a spot, with bytes of its own.
-/
import Derived.Test.YtellbmghahgjfaaNetF
namespace Go.Proofs.Ytellbmghahgjfaa
open Go.RowKit Go.Maps Go.WideShapes Go.WideMaps
open NetM
set_option linter.unusedVariables false
set_option linter.unusedSimpArgs false
set_option maxRecDepth 20000

theorem info_fl3 : (Try.prog.info? 44).map (·.size) = some 3 := by kernel_rfl
section
variable {w w' : World} {p b : Nat} {E lost : Int} {K : Kl} {V : List (Fl Pl)} {G : Nat → Prop}
/-- A flight with bytes of one's own. -/
def FlEnd (w : World) (q : Pr) (bs : List UInt8) (e : Ending) (w' : World) : Prop :=
  ∃ s', e = .returned (.agg #[.int .i64 q.1, .int .i64 q.2, sv s']) ∧ Own w' w.heap.size 5 (sv s') bs ∧ Below w.heap.size w w'
set_option maxHeartbeats 4000000 in
theorem flight_any (h : Nt w p b E lost K V G) (q : Pr) (hq : InR E q) (i : Nat) (s : Sv) (bs : List UInt8) (hi : (lineOf V q)[i]? = some (s, bs)) :
    Calls Try.prog 41 #[.pointer (some ⟨p, 0, none⟩), .agg #[.int .i64 q.1, .int .i64 q.2, .int .i64 (i : Int)]] w (FlEnd w q bs) := by
  have hfo : Try.prog.follows .mixedOrders = true := by kernel_rfl
  have hok := hq.ok h.ends.2
  have hb1 : Below w.heap.size w ((w.alloc (.cells #[.int .i64 q.1, .int .i64 q.2, .int .i64 (i : Int)] 70)).alloc (.cells #[.int .i64 0, .int .i64 0, .slice none 0 0] 44)) := ((Below.refl _ _).alloc (Nat.le_refl _) _).alloc (by simp) _
  have hq1 := (Blk.new w 70 #[.int .i64 q.1, .int .i64 q.2, .int .i64 (i : Int)]).alloc (.cells #[.int .i64 0, .int .i64 0, .slice none 0 0] 44)
  have hf1 := Blk.new (w.alloc (.cells #[.int .i64 q.1, .int .i64 q.2, .int .i64 (i : Int)] 70)) 44 #[.int .i64 0, .int .i64 0, .slice none 0 0]
  rw [World.size_alloc] at hf1
  have h1 := h.below hb1
  obtain ⟨hil, hie⟩ := List.getElem?_eq_some_iff.1 hi
  have hm := mem_line (List.getElem_mem hil)
  rw [hie] at hm
  have HS := Lib.hid (show ∀ X, Below w.heap.size w X → Sl X (sv s) bs from fun X hX => (h.by_ _ hm).below hX)
  have HBL := Lib.hid (show bs.length ≤ 1048576 from h.lens _ hm)
  obtain ⟨⟨A, n, c⟩, hv⟩ : ∃ s, lineAt K q = s := ⟨_, rfl⟩
  have hn : n = (lineOf V q).length := by have := lineAt_len h q; rw [hv] at this; exact this
  have HR := h.row q
  rw [hv] at HR
  simp only [sv] at HR
  obtain ⟨b0, o0, rfl, hx⟩ := HR.at_ i (by rw [List.length_map]; exact hil)
  have h64 : (n : Int) ≤ 64 := by have := h.full q; omega
  have hiI : (i : Int) < (n : Int) := by omega
  have hi0 : (0 : Int) ≤ (i : Int) := by omega
  have HC := Lib.hid (show ∀ X, Below w.heap.size w X → X.cell? ⟨b0, o0 + i, none⟩ = some (sv s) from fun X hX => by
    have h0 := hx 0 (by decide)
    have e : o0 + (i * kSl.sz + 0) = o0 + i := by show o0 + (i * 1 + 0) = _; omega
    rw [e] at h0
    have hcell : w.cell? ⟨b0, o0 + i, none⟩ = some (sv s) := by rw [h0]; simp [kSl, hie]
    exact (hX.cell (World.block_lt_of_cell? w _ hcell)).trans hcell)
  have HI := Lib.hid hi
  obtain ⟨s0, s1, s2⟩ := s
  simp only [sv] at HC HS
  clear HR hn hx hi hie hm hil
  go_enter Try.func41, Try.ntmps41
  go_upto_region 1 with fail
  change Code.wp _ _ _ _ ((w.alloc (.cells #[.int .i64 q.1, .int .i64 q.2, .int .i64 (i : Int)] 70)).alloc (.cells #[.int .i64 0, .int .i64 0, .slice none 0 0] 44))
  generalize (w.alloc (.cells #[.int .i64 q.1, .int .i64 q.2, .int .i64 (i : Int)] 70)).alloc (.cells #[.int .i64 0, .int .i64 0, .slice none 0 0] 44) = w1 at hb1 hq1 hf1 h1 ⊢
  refine wp_region_held_drew (S := fun X => X = w1.drew) hfo rfl (fun hS0 => ?_)
  have h2 := h1.below (show Below w1.heap.size w1 w1.drew from (Below.refl _ _).drew)
  have hq2 : Blk w1.drew w.heap.size 70 #[.int .i64 q.1, .int .i64 q.2, .int .i64 (i : Int)] := hq1
  have hf2 : Blk w1.drew (w.heap.size + 1) 44 #[.int .i64 0, .int .i64 0, .slice none 0 0] := hf1
  have hb2 := hb1.trans ((show Below w1.heap.size w1 w1.drew from (Below.refl _ _).drew).mono hb1.size)
  clear h1 hq1 hb1 hf1
  generalize w1.drew = Z0 at hS0 h2 hq2 hb2 hf2 ⊢
  have c1 := h2.c1
  have q0 : Z0.cell? ⟨w.heap.size, 0, none⟩ = some (.int .i64 q.1) := by rw [hq2.cell]; rfl
  have q1 : Z0.cell? ⟨w.heap.size, 1, none⟩ = some (.int .i64 q.2) := by rw [hq2.cell]; rfl
  have q2 : Z0.cell? ⟨w.heap.size, 2, none⟩ = some (.int .i64 (i : Int)) := by rw [hq2.cell]; rfl
  have HLK := h2.look hok
  rw [hv] at HLK
  simp only [pval, sv] at HLK
  have hc := HC.out _ hb2
  refine' wpAnyH_take (i := 0) (oi := ⟨some 6, _, _, _, _, _⟩) (v := _) rfl (by kernel_rfl) (by kernel_rfl) (by kernel_rfl) (fun _ _ _ h => h) (Or.inl ⟨by rfl, ?y0a⟩) hS0 ?r0a
  case y0a =>
    intro w' hSw
    subst hSw; go_simp
    try rfl
  try simp only [Act.put, List.setIfInBounds_toArray, List.set_cons_zero, List.set_cons_succ]
  refine' wpAnyH_take (i := 1) (oi := ⟨some 7, _, _, _, _, _⟩) (v := _) rfl (by kernel_rfl) (by kernel_rfl) (by kernel_rfl) (fun _ _ _ h => h) (Or.inl ⟨by rfl, ?y1a⟩) hS0 ?r1a
  case y1a =>
    intro w' hSw
    subst hSw; go_simp
    try rfl
  try simp only [Act.put, List.setIfInBounds_toArray, List.set_cons_zero, List.set_cons_succ]
  refine' wpAnyH_take (i := 2) (oi := ⟨some 8, _, _, _, _, _⟩) (v := _) rfl (by kernel_rfl) (by kernel_rfl) (by kernel_rfl) (fun _ _ _ h => h) (Or.inl ⟨by rfl, ?y2a⟩) hS0 ?r2a
  case y2a =>
    intro w' hSw
    subst hSw; go_simp
    try rfl
  try simp only [Act.put, List.setIfInBounds_toArray, List.set_cons_zero, List.set_cons_succ]
  refine' wpAnyH_take (i := 3) (oi := ⟨some 9, _, _, _, _, _⟩) (v := _) rfl (by kernel_rfl) (by kernel_rfl) (by kernel_rfl) (fun _ _ _ h => h) (Or.inl ⟨by rfl, ?y3a⟩) hS0 ?r3a
  case y3a =>
    intro w' hSw
    subst hSw; go_simp
    try rfl
  try simp only [Act.put, List.setIfInBounds_toArray, List.set_cons_zero, List.set_cons_succ]
  refine' wpAnyH_take (i := 4) (oi := ⟨some 10, _, _, _, _, _⟩) (v := _) rfl (by kernel_rfl) (by kernel_rfl) (by kernel_rfl) (fun _ _ _ h => h) (Or.inl ⟨by rfl, ?y4a⟩) hS0 ?r4a
  case y4a =>
    intro w' hSw
    subst hSw; go_simp
    try rfl
  try simp only [Act.put, List.setIfInBounds_toArray, List.set_cons_zero, List.set_cons_succ]
  refine' wpAnyH_take (i := 5) (oi := ⟨some 11, _, _, _, _, _⟩) (v := _) rfl (by kernel_rfl) (by kernel_rfl) (by kernel_rfl) (fun _ _ _ h => h) (Or.inl ⟨by rfl, ?y5a⟩) hS0 ?r5a
  case y5a =>
    intro w' hSw
    subst hSw; go_simp
    try rfl
  try simp only [Act.put, List.setIfInBounds_toArray, List.set_cons_zero, List.set_cons_succ]
  refine' wpAnyH_take (i := 6) (oi := ⟨some 12, _, _, _, _, _⟩) (v := _) rfl (by kernel_rfl) (by kernel_rfl) (by kernel_rfl) (fun _ _ _ h => h) (Or.inl ⟨by rfl, ?y6a⟩) hS0 ?r6a
  case y6a =>
    intro w' hSw
    subst hSw; go_simp
    try rfl
  try simp only [Act.put, List.setIfInBounds_toArray, List.set_cons_zero, List.set_cons_succ]
  refine' wpAnyH_take (i := 7) (oi := ⟨some 13, _, _, _, _, _⟩) (v := _) rfl (by kernel_rfl) (by kernel_rfl) (by kernel_rfl) (fun _ _ _ h => h) (Or.inl ⟨by rfl, ?y7a⟩) hS0 ?r7a
  case y7a =>
    intro w' hSw
    subst hSw; go_simp
    try rfl
  try simp only [Act.put, List.setIfInBounds_toArray, List.set_cons_zero, List.set_cons_succ]
  refine' wpAnyH_take (i := 8) (oi := ⟨some 14, _, _, _, _, _⟩) (v := _) rfl (by kernel_rfl) (by kernel_rfl) (by kernel_rfl) (fun _ _ _ h => h) (Or.inl ⟨by rfl, ?y8a⟩) hS0 ?r8a
  case y8a =>
    intro w' hSw
    subst hSw; go_simp
    try rfl
  try simp only [Act.put, List.setIfInBounds_toArray, List.set_cons_zero, List.set_cons_succ]
  refine' wpAnyH_take (i := 9) (oi := ⟨some 15, _, _, _, _, _⟩) (v := _) rfl (by kernel_rfl) (by kernel_rfl) (by kernel_rfl) (fun _ _ _ h => h) (Or.inl ⟨by rfl, ?y9a⟩) hS0 ?r9a
  case y9a =>
    intro w' hSw
    subst hSw; go_simp
    try rfl
  try simp only [Act.put, List.setIfInBounds_toArray, List.set_cons_zero, List.set_cons_succ]
  refine' wpAnyH_take (i := 10) (oi := ⟨some 16, _, _, _, _, _⟩) (v := _) rfl (by kernel_rfl) (by kernel_rfl) (by kernel_rfl) (fun _ _ _ h => h) (Or.inl ⟨by rfl, ?y10a⟩) hS0 ?r10a
  case y10a =>
    intro w' hSw
    subst hSw; go_simp
    try rfl
  try simp only [Act.put, List.setIfInBounds_toArray, List.set_cons_zero, List.set_cons_succ]
  refine' wpAnyH_take (i := 11) (oi := ⟨some 5, _, _, _, _, _⟩) (v := _) rfl (by kernel_rfl) (by kernel_rfl) (by kernel_rfl) (fun _ _ _ h => h) (Or.inl ⟨by rfl, ?y11a⟩) hS0 ?r11a
  case y11a =>
    intro w' hSw
    subst hSw; go_simp
    try rfl
  try simp only [Act.put, List.setIfInBounds_toArray, List.set_cons_zero, List.set_cons_succ]
  refine wpAnyH_done (by kernel_rfl) ?_ _
  clear hS0 c1 q0 q1 q2 HLK hc
  go_upto_region 2 with fail
  refine tail_begin 9 (S := fun X => Below Z0.drew.heap.size Z0.drew X) hfo (by kernel_rfl) (Below.refl _ _) (fun hS0 => ?_)
  replace h2 := h2.below (show Below Z0.heap.size Z0 Z0.drew from (Below.refl _ _).drew)
  replace hq2 : Blk Z0.drew w.heap.size 70 #[.int .i64 q.1, .int .i64 q.2, .int .i64 (i : Int)] := hq2
  replace hf2 : Blk Z0.drew (w.heap.size + 1) 44 #[.int .i64 0, .int .i64 0, .slice none 0 0] := hf2
  replace hb2 := hb2.trans ((show Below Z0.heap.size Z0 Z0.drew from (Below.refl _ _).drew).mono hb2.size)
  generalize Z0.drew = Z1 at hS0 h2 hq2 hf2 hb2 ⊢
  refine' tail_take (i := 0) (oi := ⟨some 17, _, _, _, _, _⟩) (v := _) rfl (by kernel_rfl) (by kernel_rfl) (by decide) (fun _ _ _ h => h) (Or.inl ⟨by rfl, ?y0b⟩) hS0 ?r0b
  case y0b =>
    intro w' hSw
    have hqw := hq2.below hSw hq2.lt; have q0 : w'.cell? ⟨w.heap.size, 0, none⟩ = some (.int .i64 q.1) := (by rw [hqw.cell]; rfl); have q1 : w'.cell? ⟨w.heap.size, 1, none⟩ = some (.int .i64 q.2) := (by rw [hqw.cell]; rfl)
    go_simp
    try rfl
  try simp only [Act.put, List.setIfInBounds_toArray, List.set_cons_zero, List.set_cons_succ]
  refine' tail_take (i := 1) (oi := ⟨some 18, _, _, _, _, _⟩) (v := _) rfl (by kernel_rfl) (by kernel_rfl) (by decide) (fun _ _ _ h => h) (Or.inl ⟨by rfl, ?y1b⟩) hS0 ?r1b
  case y1b =>
    intro w' hSw
    have hqw := hq2.below hSw hq2.lt; have q0 : w'.cell? ⟨w.heap.size, 0, none⟩ = some (.int .i64 q.1) := (by rw [hqw.cell]; rfl); have q1 : w'.cell? ⟨w.heap.size, 1, none⟩ = some (.int .i64 q.2) := (by rw [hqw.cell]; rfl)
    go_simp
    try rfl
  try simp only [Act.put, List.setIfInBounds_toArray, List.set_cons_zero, List.set_cons_succ]
  refine' tail_take (i := 2) (oi := ⟨some 19, _, _, _, _, _⟩) (v := _) rfl (by kernel_rfl) (by kernel_rfl) (by decide) (fun _ _ _ h => h) (Or.inl ⟨by rfl, ?y2b⟩) hS0 ?r2b
  case y2b =>
    intro w' hSw
    have hqw := hq2.below hSw hq2.lt; have q0 : w'.cell? ⟨w.heap.size, 0, none⟩ = some (.int .i64 q.1) := (by rw [hqw.cell]; rfl); have q1 : w'.cell? ⟨w.heap.size, 1, none⟩ = some (.int .i64 q.2) := (by rw [hqw.cell]; rfl)
    go_simp
    try rfl
  try simp only [Act.put, List.setIfInBounds_toArray, List.set_cons_zero, List.set_cons_succ]
  refine' tail_take (i := 3) (oi := ⟨some 20, _, _, _, _, _⟩) (v := _) rfl (by kernel_rfl) (by kernel_rfl) (by decide) (fun _ _ _ h => h) (Or.inl ⟨by rfl, ?y3b⟩) hS0 ?r3b
  case y3b =>
    intro w' hSw
    have hqw := hq2.below hSw hq2.lt; have q0 : w'.cell? ⟨w.heap.size, 0, none⟩ = some (.int .i64 q.1) := (by rw [hqw.cell]; rfl); have q1 : w'.cell? ⟨w.heap.size, 1, none⟩ = some (.int .i64 q.2) := (by rw [hqw.cell]; rfl)
    go_simp
    try rfl
  try simp only [Act.put, List.setIfInBounds_toArray, List.set_cons_zero, List.set_cons_succ]
  refine' tail_take (i := 4) (oi := ⟨some 21, _, _, _, _, _⟩) (v := _) rfl (by kernel_rfl) (by kernel_rfl) (by decide) (fun _ _ _ h => h) (Or.inl ⟨by rfl, ?y4b⟩) hS0 ?r4b
  case y4b =>
    intro w' hSw
    have hqw := hq2.below hSw hq2.lt; have q0 : w'.cell? ⟨w.heap.size, 0, none⟩ = some (.int .i64 q.1) := (by rw [hqw.cell]; rfl); have q1 : w'.cell? ⟨w.heap.size, 1, none⟩ = some (.int .i64 q.2) := (by rw [hqw.cell]; rfl)
    go_simp
    try rfl
  try simp only [Act.put, List.setIfInBounds_toArray, List.set_cons_zero, List.set_cons_succ]
  refine' tail_take (i := 5) (oi := ⟨some 22, _, _, _, _, _⟩) (v := _) rfl (by kernel_rfl) (by kernel_rfl) (by decide) (fun _ _ _ h => h) (Or.inl ⟨by rfl, ?y5b⟩) hS0 ?r5b
  case y5b =>
    intro w' hSw
    have hqw := hq2.below hSw hq2.lt; have q0 : w'.cell? ⟨w.heap.size, 0, none⟩ = some (.int .i64 q.1) := (by rw [hqw.cell]; rfl); have q1 : w'.cell? ⟨w.heap.size, 1, none⟩ = some (.int .i64 q.2) := (by rw [hqw.cell]; rfl)
    go_simp
    try rfl
  try simp only [Act.put, List.setIfInBounds_toArray, List.set_cons_zero, List.set_cons_succ]
  refine' tail_take (i := 6) (oi := ⟨some 23, _, _, _, _, _⟩) (v := _) rfl (by kernel_rfl) (by kernel_rfl) (by decide) (fun _ _ _ h => h) (Or.inl ⟨by rfl, ?y6b⟩) hS0 ?r6b
  case y6b =>
    intro w' hSw
    have hqw := hq2.below hSw hq2.lt; have q0 : w'.cell? ⟨w.heap.size, 0, none⟩ = some (.int .i64 q.1) := (by rw [hqw.cell]; rfl); have q1 : w'.cell? ⟨w.heap.size, 1, none⟩ = some (.int .i64 q.2) := (by rw [hqw.cell]; rfl)
    go_simp
    try rfl
  try simp only [Act.put, List.setIfInBounds_toArray, List.set_cons_zero, List.set_cons_succ]
  have HCC := Lib.hid (clone_any (.slice s0 s1 s2) bs Z1 (HS.out _ hb2) (by have := HBL.out; omega))
  refine tail_one (i := 7) (by kernel_rfl) rfl (by decide) (fun Kc hK => ?_)
  go_simp
  refine HCC.out.mono ?_
  rintro e Z3 ⟨v3, rfl, ho3, hb3⟩
  have hS3 : Below Z1.heap.size Z1 Z3 := hb3
  obtain ⟨A3, n3, c3, rfl⟩ := ho3.shape
  refine hK.out _ _ hS3 (fun _ => ?_)
  clear hK Kc
  try simp only [Act.put, List.setIfInBounds_toArray, List.set_cons_zero, List.set_cons_succ]
  have hf3 := hf2.below hS3 hf2.lt
  have HO := Lib.hid ho3
  clear ho3 HCC
  refine' tail_take (i := 8) (oi := ⟨some 25, _, _, _, _, _⟩) (v := _) rfl (by kernel_rfl) (by kernel_rfl) (by decide) (fun _ _ _ h => h) (Or.inl ⟨by rfl, ?y8b⟩) hS3 ?r8b
  case y8b =>
    intro w' hSw
    go_simp
    try rfl
  try simp only [Act.put, List.setIfInBounds_toArray, List.set_cons_zero, List.set_cons_succ]
  have f0 : Z3.cell? ⟨w.heap.size + 1, 0, none⟩ = some (.int .i64 0) := by rw [hf3.cell]; rfl
  have f1 : Z3.cell? ⟨w.heap.size + 1, 1, none⟩ = some (.int .i64 0) := by rw [hf3.cell]; rfl
  have f2 : Z3.cell? ⟨w.heap.size + 1, 2, none⟩ = some (.slice none 0 0) := by rw [hf3.cell]; rfl
  have g0 := hf3.frozen 0
  have g1 := hf3.frozen 1
  have g2 := hf3.frozen 2
  refine tail_last (by kernel_rfl) rfl (by kernel_rfl) (fun Kc hK => ?_)
  go_simp
  refine hK.out _ _ ?_
  clear hK Kc
  have hE : Blk (((Z3.setCell ⟨w.heap.size + 1, 0, none⟩ (.int .i64 q.1)).setCell ⟨w.heap.size + 1, 1, none⟩ (.int .i64 q.2)).setCell ⟨w.heap.size + 1, 2, none⟩ (.slice A3 n3 c3)) (w.heap.size + 1) 44 #[.int .i64 q.1, .int .i64 q.2, .slice A3 n3 c3] := ((hf3.set_ 0 (.int .i64 q.1)).set_ 1 (.int .i64 q.2)).set_ 2 (.slice A3 n3 c3)
  have hgr : Below w.heap.size w (((Z3.setCell ⟨w.heap.size + 1, 0, none⟩ (.int .i64 q.1)).setCell ⟨w.heap.size + 1, 1, none⟩ (.int .i64 q.2)).setCell ⟨w.heap.size + 1, 2, none⟩ (.slice A3 n3 c3)) := (((hb2.trans (hS3.mono hb2.size)).setCell (by simp) _).setCell (by simp) _).setCell (by simp) _
  have hOE : Own (((Z3.setCell ⟨w.heap.size + 1, 0, none⟩ (.int .i64 q.1)).setCell ⟨w.heap.size + 1, 1, none⟩ (.int .i64 q.2)).setCell ⟨w.heap.size + 1, 2, none⟩ (.slice A3 n3 c3)) w.heap.size 5 (.slice A3 n3 c3) bs := by
    have hz := hb2.size
    refine ⟨HO.out.1, ?_⟩
    rcases HO.out.2 with h0 | ⟨g, cap, cur, hv, hg, hh, r⟩
    · exact .inl h0
    · have hne : g ≠ w.heap.size + 1 := by
        rintro rfl
        have h3 := hf3
        unfold Blk at h3
        rw [h3] at hh
        injection hh with hh
        injection hh with _ e _
        exact absurd e (by decide)
      exact .inr ⟨g, cap, cur, hv, by omega, ((Below.heap_setCell _ _ _ g hne).trans ((Below.heap_setCell _ _ _ g hne).trans (Below.heap_setCell _ _ _ g hne))).trans hh, r⟩
  generalize ((Z3.setCell ⟨w.heap.size + 1, 0, none⟩ (.int .i64 q.1)).setCell ⟨w.heap.size + 1, 1, none⟩ (.int .i64 q.2)).setCell ⟨w.heap.size + 1, 2, none⟩ (.slice A3 n3 c3) = Z4 at hE hgr hOE ⊢
  go_wp2
  exact bodyPost_ret (v := .agg #[.int .i64 q.1, .int .i64 q.2, .slice A3 n3 c3]) (results_cell_row rfl _ _ (w.heap.size + 1) 44 _ (0, 0) _ rfl hE Try.underlying44 rfl info_fl3) rfl ⟨(A3, n3, c3), rfl, hOE, hgr⟩
end
end Go.Proofs.Ytellbmghahgjfaa

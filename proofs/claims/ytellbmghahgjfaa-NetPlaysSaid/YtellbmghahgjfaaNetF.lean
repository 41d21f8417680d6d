/-
  remove: one taken out of a line.
-/
import Derived.Test.YtellbmghahgjfaaNetE
namespace Go.Proofs.Ytellbmghahgjfaa
open Go.RowKit Go.Maps Go.WideShapes Go.WideMaps
open NetM
set_option linter.unusedVariables false
set_option linter.unusedSimpArgs false
set_option maxRecDepth 20000

section
theorem SlK.upto {w : World} {A : Option Addr} {n c : Nat} {L : List Sv} (h : SlK kSl w (.slice A n c) L) (i : Nat) (hi : i ≤ n) : SlK kSl w (.slice A i c) (L.take i) := by
  obtain ⟨A', c', e, hc, ha⟩ := h
  injection e with e1 e2 e3
  subst e1 e3
  have hl : (L.take i).length = i := by rw [List.length_take]; omega
  refine ⟨_, _, by rw [hl], by rw [hl]; omega, fun h0 => ?_⟩
  rw [hl] at h0
  obtain ⟨b, o, rfl, hx⟩ := ha (by omega)
  refine ⟨b, o, rfl, fun j u hu => hx j u ?_⟩
  have hj : j < i := by
    have := (List.getElem?_eq_some_iff.1 hu).1
    rw [cellsK_length, hl] at this
    simpa [kSl] using this
  have e := cellsK_take (k := kSl) L i
  rw [← e] at hu
  rwa [List.getElem?_take, if_pos (by simpa [kSl] using hj)] at hu
theorem SlK.from_ {w : World} {b o n c : Nat} {L : List Sv} (h : SlK kSl w (.slice (some ⟨b, o, none⟩) n c) L) (i : Nat) (hi : i ≤ n) : SlK kSl w (.slice (if c = i then some ⟨b, o, none⟩ else some ⟨b, o + i, none⟩) (n - i) (c - i)) (L.drop i) := by
  obtain ⟨A', c', e, hc, ha⟩ := h
  injection e with e1 e2 e3
  subst e1 e3
  have hl : (L.drop i).length = n - i := by rw [List.length_drop]; omega
  refine ⟨_, _, by rw [hl], by rw [hl]; omega, fun h0 => ?_⟩
  rw [hl] at h0
  obtain ⟨b', o', e', hx⟩ := ha (by omega)
  injection e' with e'
  injection e' with eb eo _
  subst eb eo
  refine ⟨b, o + i, by rw [if_neg (by omega)], fun j u hu => ?_⟩
  rw [Nat.add_assoc]
  refine hx (i + j) u ?_
  have hs : L = L.take i ++ L.drop i := (List.take_append_drop i L).symm
  have hc : cellsK kSl L = cellsK kSl (L.take i) ++ cellsK kSl (L.drop i) := by conv => lhs; rw [hs, cellsK_append]
  have hlen : (cellsK kSl (L.take i)).length = i := by rw [cellsK_length, List.length_take]; show min i L.length * 1 = i; omega
  rw [hc, List.getElem?_append_right (by omega), hlen, Nat.add_sub_cancel_left]
  exact hu
variable {w w' : World} {p b : Nat} {E lost : Int} {K : Kl} {V : List (Fl Pl)} {G : Nat → Prop}
/-- What remove leaves. -/
def RemEnd (w : World) (p b : Nat) (E lost : Int) (V' : List (Fl Pl)) (G : Nat → Prop) (e : Ending) (w' : World) : Prop :=
  e = .returned (.tuple #[]) ∧ Keep (fun i => i = b) w w' ∧ ∃ K' G', Nt w' p b E lost K' V' G' ∧ ∀ i, G' i → G i ∨ w.heap.size ≤ i
set_option maxHeartbeats 4000000 in
theorem remove_any (h : Nt w p b E lost K V G) (q : Pr) (hq : InR E q) (i : Nat) (hi : i < (lineOf V q).length) (V' : List (Fl Pl)) (hV : ∀ r, lineOf V' r = if q = r then (lineOf V q).eraseIdx i else lineOf V r) (hsort : Sorted V') (hsub : ∀ f ∈ V', f ∈ V) :
    Calls Try.prog 42 #[.pointer (some ⟨p, 0, none⟩), .agg #[.int .i64 q.1, .int .i64 q.2, .int .i64 (i : Int)]] w (RemEnd w p b E lost V' G) := by
  have hfo : Try.prog.follows .mixedOrders = true := by kernel_rfl
  have hok := hq.ok h.ends.2
  have hb1 : Below w.heap.size w (w.alloc (.cells #[.int .i64 q.1, .int .i64 q.2, .int .i64 (i : Int)] 70)) := (Below.refl _ _).alloc (Nat.le_refl _) _
  have hq1 := Blk.new w 70 #[.int .i64 q.1, .int .i64 q.2, .int .i64 (i : Int)]
  have h1 := h.below hb1
  obtain ⟨⟨A, n, c⟩, hv⟩ : ∃ s, lineAt K q = s := ⟨_, rfl⟩
  have hn : n = (lineOf V q).length := by have := lineAt_len h q; rw [hv] at this; exact this
  have HR := h.row q
  rw [hv] at HR
  simp only [sv] at HR
  obtain ⟨b0, o0, rfl, hjunk⟩ := HR.at_ 0 (by rw [List.length_map]; omega)
  have HF := Lib.hid (h.full q)
  have hnc : n ≤ c := by obtain ⟨_, c', e, hc', _⟩ := HR; injection e with e1 e2 e3; rw [e2, e3]; exact hc'
  have h64 : (n : Int) ≤ 64 := by have := h.full q; omega
  have HB1 := Lib.hid (show ∀ X, Below w.heap.size w X → SlK kSl X (.slice (some ⟨b0, o0, none⟩) i c) (((lineOf V q).map Prod.fst).take i) from fun X hX => (HR.below hX).upto i (by omega))
  have HB2 := Lib.hid (show ∀ X, Below w.heap.size w X → SlK kSl X (.slice (if c = i + 1 then some ⟨b0, o0, none⟩ else some ⟨b0, o0 + (i + 1), none⟩) (n - (i + 1)) (c - (i + 1))) (((lineOf V q).map Prod.fst).drop (i + 1)) from fun X hX => (HR.below hX).from_ (i + 1) (by omega))
  have hiI : (i : Int) < (n : Int) := by omega
  have hi0 : (0 : Int) ≤ (i : Int) := by omega
  have hic : i ≤ c := by omega
  have hi2 : (0 : Int) ≤ (i : Int) + 1 := by omega
  have hi3 : (i : Int) + 1 ≤ (n : Int) := by omega
  have hil : i + 1 ≤ n := by omega
  have hic1 : i + 1 ≤ c := by omega
  have hw1 : IntKind.i64.wrap ((i : Int) + 1) = (i : Int) + 1 := by rw [IntKind.wrap_i64] <;> omega
  have HI := Lib.hid (And.intro hi hv)
  clear hjunk HR hn
  go_enter Try.func42, Try.ntmps42
  go_upto_region 1 with fail
  change Code.wp _ _ _ _ (w.alloc (.cells #[.int .i64 q.1, .int .i64 q.2, .int .i64 (i : Int)] 70))
  generalize w.alloc (.cells #[.int .i64 q.1, .int .i64 q.2, .int .i64 (i : Int)] 70) = w1 at hb1 hq1 h1 ⊢
  refine wp_region_held_drew (S := fun X => X = w1.drew) hfo rfl (fun hS0 => ?_)
  have h2 := h1.below (show Below w1.heap.size w1 w1.drew from (Below.refl _ _).drew)
  have hq2 : Blk w1.drew w.heap.size 70 #[.int .i64 q.1, .int .i64 q.2, .int .i64 (i : Int)] := hq1
  have hb2 := hb1.trans ((show Below w1.heap.size w1 w1.drew from (Below.refl _ _).drew).mono hb1.size)
  clear h1 hq1 hb1
  generalize w1.drew = Z0 at hS0 h2 hq2 hb2 ⊢
  have c1 := h2.c1
  have q0 : Z0.cell? ⟨w.heap.size, 0, none⟩ = some (.int .i64 q.1) := by rw [hq2.cell]; rfl
  have q1 : Z0.cell? ⟨w.heap.size, 1, none⟩ = some (.int .i64 q.2) := by rw [hq2.cell]; rfl
  have HLK := h2.look hok
  rw [hv] at HLK
  simp only [pval, sv] at HLK
  refine' wpAnyH_take (i := 0) (oi := ⟨some 5, _, _, _, _, _⟩) (v := _) rfl (by kernel_rfl) (by kernel_rfl) (by kernel_rfl) (fun _ _ _ h => h) (Or.inl ⟨by rfl, ?y0a⟩) hS0 ?r0a
  case y0a =>
    intro w' hSw
    subst hSw; go_simp
    try rfl
  try simp only [Act.put, List.setIfInBounds_toArray, List.set_cons_zero, List.set_cons_succ]
  refine' wpAnyH_take (i := 1) (oi := ⟨some 6, _, _, _, _, _⟩) (v := _) rfl (by kernel_rfl) (by kernel_rfl) (by kernel_rfl) (fun _ _ _ h => h) (Or.inl ⟨by rfl, ?y1a⟩) hS0 ?r1a
  case y1a =>
    intro w' hSw
    subst hSw; go_simp
    try rfl
  try simp only [Act.put, List.setIfInBounds_toArray, List.set_cons_zero, List.set_cons_succ]
  refine' wpAnyH_take (i := 2) (oi := ⟨some 7, _, _, _, _, _⟩) (v := _) rfl (by kernel_rfl) (by kernel_rfl) (by kernel_rfl) (fun _ _ _ h => h) (Or.inl ⟨by rfl, ?y2a⟩) hS0 ?r2a
  case y2a =>
    intro w' hSw
    subst hSw; go_simp
    try rfl
  try simp only [Act.put, List.setIfInBounds_toArray, List.set_cons_zero, List.set_cons_succ]
  refine' wpAnyH_take (i := 3) (oi := ⟨some 8, _, _, _, _, _⟩) (v := _) rfl (by kernel_rfl) (by kernel_rfl) (by kernel_rfl) (fun _ _ _ h => h) (Or.inl ⟨by rfl, ?y3a⟩) hS0 ?r3a
  case y3a =>
    intro w' hSw
    subst hSw; go_simp
    try rfl
  try simp only [Act.put, List.setIfInBounds_toArray, List.set_cons_zero, List.set_cons_succ]
  refine' wpAnyH_take (i := 4) (oi := ⟨some 9, _, _, _, _, _⟩) (v := _) rfl (by kernel_rfl) (by kernel_rfl) (by kernel_rfl) (fun _ _ _ h => h) (Or.inl ⟨by rfl, ?y4a⟩) hS0 ?r4a
  case y4a =>
    intro w' hSw
    subst hSw; go_simp
    try rfl
  try simp only [Act.put, List.setIfInBounds_toArray, List.set_cons_zero, List.set_cons_succ]
  refine' wpAnyH_take (i := 5) (oi := ⟨some 10, _, _, _, _, _⟩) (v := _) rfl (by kernel_rfl) (by kernel_rfl) (by kernel_rfl) (fun _ _ _ h => h) (Or.inl ⟨by rfl, ?y5a⟩) hS0 ?r5a
  case y5a =>
    intro w' hSw
    subst hSw; go_simp
    try rfl
  try simp only [Act.put, List.setIfInBounds_toArray, List.set_cons_zero, List.set_cons_succ]
  refine' wpAnyH_take (i := 6) (oi := ⟨some 11, _, _, _, _, _⟩) (v := _) rfl (by kernel_rfl) (by kernel_rfl) (by kernel_rfl) (fun _ _ _ h => h) (Or.inl ⟨by rfl, ?y6a⟩) hS0 ?r6a
  case y6a =>
    intro w' hSw
    subst hSw; go_simp
    try rfl
  try simp only [Act.put, List.setIfInBounds_toArray, List.set_cons_zero, List.set_cons_succ]
  refine' wpAnyH_take (i := 7) (oi := ⟨some 4, _, _, _, _, _⟩) (v := _) rfl (by kernel_rfl) (by kernel_rfl) (by kernel_rfl) (fun _ _ _ h => h) (Or.inl ⟨by rfl, ?y7a⟩) hS0 ?r7a
  case y7a =>
    intro w' hSw
    subst hSw; go_simp
    try rfl
  try simp only [Act.put, List.setIfInBounds_toArray, List.set_cons_zero, List.set_cons_succ]
  refine wpAnyH_done (by kernel_rfl) ?_ _
  clear hS0 c1 q0 q1 HLK
  go_upto_region 2 with fail
  refine tail_begin 17 (S := fun X => Below Z0.drew.heap.size Z0.drew X) hfo (by kernel_rfl) (Below.refl _ _) (fun hS0 => ?_)
  replace h2 := h2.below (show Below Z0.heap.size Z0 Z0.drew from (Below.refl _ _).drew)
  replace hq2 : Blk Z0.drew w.heap.size 70 #[.int .i64 q.1, .int .i64 q.2, .int .i64 (i : Int)] := hq2
  replace hb2 := hb2.trans ((show Below Z0.heap.size Z0 Z0.drew from (Below.refl _ _).drew).mono hb2.size)
  generalize Z0.drew = Z1 at hS0 h2 hq2 hb2 ⊢
  refine' tail_take (i := 0) (oi := ⟨some 12, _, _, _, _, _⟩) (v := _) rfl (by kernel_rfl) (by kernel_rfl) (by decide) (fun _ _ _ h => h) (Or.inl ⟨by rfl, ?y0b⟩) hS0 ?r0b
  case y0b =>
    intro w' hSw
    have c1 := (h2.below hSw).c1; have hqw := hq2.below hSw hq2.lt; have q0 : w'.cell? ⟨w.heap.size, 0, none⟩ = some (.int .i64 q.1) := (by rw [hqw.cell]; rfl); have q1 : w'.cell? ⟨w.heap.size, 1, none⟩ = some (.int .i64 q.2) := (by rw [hqw.cell]; rfl); have q2 : w'.cell? ⟨w.heap.size, 2, none⟩ = some (.int .i64 (i : Int)) := (by rw [hqw.cell]; rfl)
    go_simp
    try rfl
  try simp only [Act.put, List.setIfInBounds_toArray, List.set_cons_zero, List.set_cons_succ]
  refine' tail_take (i := 1) (oi := ⟨some 13, _, _, _, _, _⟩) (v := _) rfl (by kernel_rfl) (by kernel_rfl) (by decide) (fun _ _ _ h => h) (Or.inl ⟨by rfl, ?y1b⟩) hS0 ?r1b
  case y1b =>
    intro w' hSw
    have c1 := (h2.below hSw).c1; have hqw := hq2.below hSw hq2.lt; have q0 : w'.cell? ⟨w.heap.size, 0, none⟩ = some (.int .i64 q.1) := (by rw [hqw.cell]; rfl); have q1 : w'.cell? ⟨w.heap.size, 1, none⟩ = some (.int .i64 q.2) := (by rw [hqw.cell]; rfl); have q2 : w'.cell? ⟨w.heap.size, 2, none⟩ = some (.int .i64 (i : Int)) := (by rw [hqw.cell]; rfl)
    go_simp
    try rfl
  try simp only [Act.put, List.setIfInBounds_toArray, List.set_cons_zero, List.set_cons_succ]
  refine' tail_take (i := 2) (oi := ⟨some 14, _, _, _, _, _⟩) (v := _) rfl (by kernel_rfl) (by kernel_rfl) (by decide) (fun _ _ _ h => h) (Or.inl ⟨by rfl, ?y2b⟩) hS0 ?r2b
  case y2b =>
    intro w' hSw
    have c1 := (h2.below hSw).c1; have hqw := hq2.below hSw hq2.lt; have q0 : w'.cell? ⟨w.heap.size, 0, none⟩ = some (.int .i64 q.1) := (by rw [hqw.cell]; rfl); have q1 : w'.cell? ⟨w.heap.size, 1, none⟩ = some (.int .i64 q.2) := (by rw [hqw.cell]; rfl); have q2 : w'.cell? ⟨w.heap.size, 2, none⟩ = some (.int .i64 (i : Int)) := (by rw [hqw.cell]; rfl)
    go_simp
    try rfl
  try simp only [Act.put, List.setIfInBounds_toArray, List.set_cons_zero, List.set_cons_succ]
  refine' tail_take (i := 3) (oi := ⟨some 15, _, _, _, _, _⟩) (v := _) rfl (by kernel_rfl) (by kernel_rfl) (by decide) (fun _ _ _ h => h) (Or.inl ⟨by rfl, ?y3b⟩) hS0 ?r3b
  case y3b =>
    intro w' hSw
    have c1 := (h2.below hSw).c1; have hqw := hq2.below hSw hq2.lt; have q0 : w'.cell? ⟨w.heap.size, 0, none⟩ = some (.int .i64 q.1) := (by rw [hqw.cell]; rfl); have q1 : w'.cell? ⟨w.heap.size, 1, none⟩ = some (.int .i64 q.2) := (by rw [hqw.cell]; rfl); have q2 : w'.cell? ⟨w.heap.size, 2, none⟩ = some (.int .i64 (i : Int)) := (by rw [hqw.cell]; rfl)
    go_simp
    try rfl
  try simp only [Act.put, List.setIfInBounds_toArray, List.set_cons_zero, List.set_cons_succ]
  refine' tail_take (i := 4) (oi := ⟨some 16, _, _, _, _, _⟩) (v := _) rfl (by kernel_rfl) (by kernel_rfl) (by decide) (fun _ _ _ h => h) (Or.inl ⟨by rfl, ?y4b⟩) hS0 ?r4b
  case y4b =>
    intro w' hSw
    have c1 := (h2.below hSw).c1; have hqw := hq2.below hSw hq2.lt; have q0 : w'.cell? ⟨w.heap.size, 0, none⟩ = some (.int .i64 q.1) := (by rw [hqw.cell]; rfl); have q1 : w'.cell? ⟨w.heap.size, 1, none⟩ = some (.int .i64 q.2) := (by rw [hqw.cell]; rfl); have q2 : w'.cell? ⟨w.heap.size, 2, none⟩ = some (.int .i64 (i : Int)) := (by rw [hqw.cell]; rfl)
    go_simp
    try rfl
  try simp only [Act.put, List.setIfInBounds_toArray, List.set_cons_zero, List.set_cons_succ]
  refine' tail_take (i := 5) (oi := ⟨some 17, _, _, _, _, _⟩) (v := _) rfl (by kernel_rfl) (by kernel_rfl) (by decide) (fun _ _ _ h => h) (Or.inl ⟨by rfl, ?y5b⟩) hS0 ?r5b
  case y5b =>
    intro w' hSw
    have c1 := (h2.below hSw).c1; have hqw := hq2.below hSw hq2.lt; have q0 : w'.cell? ⟨w.heap.size, 0, none⟩ = some (.int .i64 q.1) := (by rw [hqw.cell]; rfl); have q1 : w'.cell? ⟨w.heap.size, 1, none⟩ = some (.int .i64 q.2) := (by rw [hqw.cell]; rfl); have q2 : w'.cell? ⟨w.heap.size, 2, none⟩ = some (.int .i64 (i : Int)) := (by rw [hqw.cell]; rfl)
    go_simp
    try rfl
  try simp only [Act.put, List.setIfInBounds_toArray, List.set_cons_zero, List.set_cons_succ]
  refine' tail_take (i := 6) (oi := ⟨some 18, _, _, _, _, _⟩) (v := _) rfl (by kernel_rfl) (by kernel_rfl) (by decide) (fun _ _ _ h => h) (Or.inl ⟨by rfl, ?y6b⟩) hS0 ?r6b
  case y6b =>
    intro w' hSw
    have c1 := (h2.below hSw).c1; have hqw := hq2.below hSw hq2.lt; have q0 : w'.cell? ⟨w.heap.size, 0, none⟩ = some (.int .i64 q.1) := (by rw [hqw.cell]; rfl); have q1 : w'.cell? ⟨w.heap.size, 1, none⟩ = some (.int .i64 q.2) := (by rw [hqw.cell]; rfl); have q2 : w'.cell? ⟨w.heap.size, 2, none⟩ = some (.int .i64 (i : Int)) := (by rw [hqw.cell]; rfl)
    go_simp
    try rfl
  try simp only [Act.put, List.setIfInBounds_toArray, List.set_cons_zero, List.set_cons_succ]
  refine' tail_take (i := 7) (oi := ⟨some 19, _, _, _, _, _⟩) (v := _) rfl (by kernel_rfl) (by kernel_rfl) (by decide) (fun _ _ _ h => h) (Or.inl ⟨by rfl, ?y7b⟩) hS0 ?r7b
  case y7b =>
    intro w' hSw
    have c1 := (h2.below hSw).c1; have hqw := hq2.below hSw hq2.lt; have q0 : w'.cell? ⟨w.heap.size, 0, none⟩ = some (.int .i64 q.1) := (by rw [hqw.cell]; rfl); have q1 : w'.cell? ⟨w.heap.size, 1, none⟩ = some (.int .i64 q.2) := (by rw [hqw.cell]; rfl); have q2 : w'.cell? ⟨w.heap.size, 2, none⟩ = some (.int .i64 (i : Int)) := (by rw [hqw.cell]; rfl)
    go_simp
    try rfl
  try simp only [Act.put, List.setIfInBounds_toArray, List.set_cons_zero, List.set_cons_succ]
  refine' tail_take (i := 8) (oi := ⟨some 20, _, _, _, _, _⟩) (v := _) rfl (by kernel_rfl) (by kernel_rfl) (by decide) (fun _ _ _ h => h) (Or.inl ⟨by rfl, ?y8b⟩) hS0 ?r8b
  case y8b =>
    intro w' hSw
    have c1 := (h2.below hSw).c1; have hqw := hq2.below hSw hq2.lt; have q0 : w'.cell? ⟨w.heap.size, 0, none⟩ = some (.int .i64 q.1) := (by rw [hqw.cell]; rfl); have q1 : w'.cell? ⟨w.heap.size, 1, none⟩ = some (.int .i64 q.2) := (by rw [hqw.cell]; rfl); have q2 : w'.cell? ⟨w.heap.size, 2, none⟩ = some (.int .i64 (i : Int)) := (by rw [hqw.cell]; rfl)
    go_simp
    try rfl
  try simp only [Act.put, List.setIfInBounds_toArray, List.set_cons_zero, List.set_cons_succ]
  refine' tail_take (i := 9) (oi := ⟨some 21, _, _, _, _, _⟩) (v := _) rfl (by kernel_rfl) (by kernel_rfl) (by decide) (fun _ _ _ h => h) (Or.inl ⟨by rfl, ?y9b⟩) hS0 ?r9b
  case y9b =>
    intro w' hSw
    have c1 := (h2.below hSw).c1; have hqw := hq2.below hSw hq2.lt; have q0 : w'.cell? ⟨w.heap.size, 0, none⟩ = some (.int .i64 q.1) := (by rw [hqw.cell]; rfl); have q1 : w'.cell? ⟨w.heap.size, 1, none⟩ = some (.int .i64 q.2) := (by rw [hqw.cell]; rfl); have q2 : w'.cell? ⟨w.heap.size, 2, none⟩ = some (.int .i64 (i : Int)) := (by rw [hqw.cell]; rfl)
    go_simp
    try rfl
  try simp only [Act.put, List.setIfInBounds_toArray, List.set_cons_zero, List.set_cons_succ]
  refine' tail_take (i := 10) (oi := ⟨some 22, _, _, _, _, _⟩) (v := _) rfl (by kernel_rfl) (by kernel_rfl) (by decide) (fun _ _ _ h => h) (Or.inl ⟨by rfl, ?y10b⟩) hS0 ?r10b
  case y10b =>
    intro w' hSw
    have c1 := (h2.below hSw).c1; have hqw := hq2.below hSw hq2.lt; have q0 : w'.cell? ⟨w.heap.size, 0, none⟩ = some (.int .i64 q.1) := (by rw [hqw.cell]; rfl); have q1 : w'.cell? ⟨w.heap.size, 1, none⟩ = some (.int .i64 q.2) := (by rw [hqw.cell]; rfl); have q2 : w'.cell? ⟨w.heap.size, 2, none⟩ = some (.int .i64 (i : Int)) := (by rw [hqw.cell]; rfl)
    go_simp
    try rfl
  try simp only [Act.put, List.setIfInBounds_toArray, List.set_cons_zero, List.set_cons_succ]
  refine' tail_take (i := 11) (oi := ⟨some 23, _, _, _, _, _⟩) (v := _) rfl (by kernel_rfl) (by kernel_rfl) (by decide) (fun _ _ _ h => h) (Or.inl ⟨by rfl, ?y11b⟩) hS0 ?r11b
  case y11b =>
    intro w' hSw
    have c1 := (h2.below hSw).c1; have hqw := hq2.below hSw hq2.lt; have q0 : w'.cell? ⟨w.heap.size, 0, none⟩ = some (.int .i64 q.1) := (by rw [hqw.cell]; rfl); have q1 : w'.cell? ⟨w.heap.size, 1, none⟩ = some (.int .i64 q.2) := (by rw [hqw.cell]; rfl); have q2 : w'.cell? ⟨w.heap.size, 2, none⟩ = some (.int .i64 (i : Int)) := (by rw [hqw.cell]; rfl)
    go_simp
    try rfl
  try simp only [Act.put, List.setIfInBounds_toArray, List.set_cons_zero, List.set_cons_succ]
  refine' tail_take (i := 12) (oi := ⟨some 24, _, _, _, _, _⟩) (v := _) rfl (by kernel_rfl) (by kernel_rfl) (by decide) (fun _ _ _ h => h) (Or.inl ⟨by rfl, ?y12b⟩) hS0 ?r12b
  case y12b =>
    intro w' hSw
    have c1 := (h2.below hSw).c1; have hqw := hq2.below hSw hq2.lt; have q0 : w'.cell? ⟨w.heap.size, 0, none⟩ = some (.int .i64 q.1) := (by rw [hqw.cell]; rfl); have q1 : w'.cell? ⟨w.heap.size, 1, none⟩ = some (.int .i64 q.2) := (by rw [hqw.cell]; rfl); have q2 : w'.cell? ⟨w.heap.size, 2, none⟩ = some (.int .i64 (i : Int)) := (by rw [hqw.cell]; rfl)
    go_simp
    try rfl
  try simp only [Act.put, List.setIfInBounds_toArray, List.set_cons_zero, List.set_cons_succ]
  refine' tail_take (i := 13) (oi := ⟨some 25, _, _, _, _, _⟩) (v := _) rfl (by kernel_rfl) (by kernel_rfl) (by decide) (fun _ _ _ h => h) (Or.inl ⟨by rfl, ?y13b⟩) hS0 ?r13b
  case y13b =>
    intro w' hSw
    have c1 := (h2.below hSw).c1; have hqw := hq2.below hSw hq2.lt; have q0 : w'.cell? ⟨w.heap.size, 0, none⟩ = some (.int .i64 q.1) := (by rw [hqw.cell]; rfl); have q1 : w'.cell? ⟨w.heap.size, 1, none⟩ = some (.int .i64 q.2) := (by rw [hqw.cell]; rfl); have q2 : w'.cell? ⟨w.heap.size, 2, none⟩ = some (.int .i64 (i : Int)) := (by rw [hqw.cell]; rfl)
    go_simp
    try rfl
  try simp only [Act.put, List.setIfInBounds_toArray, List.set_cons_zero, List.set_cons_succ]
  refine' tail_take (i := 14) (oi := ⟨some 26, _, _, _, _, _⟩) (v := _) rfl (by kernel_rfl) (by kernel_rfl) (by decide) (fun _ _ _ h => h) (Or.inl ⟨by rfl, ?y14b⟩) hS0 ?r14b
  case y14b =>
    intro w' hSw
    have c1 := (h2.below hSw).c1; have hqw := hq2.below hSw hq2.lt; have q0 : w'.cell? ⟨w.heap.size, 0, none⟩ = some (.int .i64 q.1) := (by rw [hqw.cell]; rfl); have q1 : w'.cell? ⟨w.heap.size, 1, none⟩ = some (.int .i64 q.2) := (by rw [hqw.cell]; rfl); have q2 : w'.cell? ⟨w.heap.size, 2, none⟩ = some (.int .i64 (i : Int)) := (by rw [hqw.cell]; rfl)
    go_simp
    try rfl
  try simp only [Act.put, List.setIfInBounds_toArray, List.set_cons_zero, List.set_cons_succ]
  obtain ⟨A2, hA2⟩ : ∃ a, (if c = i + 1 then some (⟨b0, o0, none⟩ : Addr) else some ⟨b0, o0 + (i + 1), none⟩) = a := ⟨_, rfl⟩
  rw [hA2] at HB2
  have hbs : Below Z1.heap.size Z1 (Z1.alloc (.cells #[.slice (some ⟨b0, o0, none⟩) i c, .slice A2 (n - (i + 1)) (c - (i + 1))] 62)) := (Below.refl _ _).alloc (Nat.le_refl _) _
  have hO2 := two_lines Z1 (some ⟨b0, o0, none⟩, i, c) (A2, n - (i + 1), c - (i + 1))
  have hR1 := HB1.out _ (hb2.trans (hbs.mono hb2.size))
  have hR2 := HB2.out _ (hb2.trans (hbs.mono hb2.size))
  simp only [sv] at hO2 hR1 hR2
  rw [hA2]
  clear hA2 HB1 HB2
  refine tail_one (i := 15) (by kernel_rfl) rfl (by decide) (fun Kc hK => ?_)
  go_simp
  refine hK.out _ _ hbs (fun _ => ?_)
  clear hK Kc
  try simp only [Act.put, List.setIfInBounds_toArray, List.set_cons_zero, List.set_cons_succ]
  generalize Z1.alloc (.cells #[.slice (some ⟨b0, o0, none⟩) i c, .slice A2 (n - (i + 1)) (c - (i + 1))] 62) = Z2 at hbs hO2 hR1 hR2 ⊢
  have HCC := Lib.hid (concatL_any _ [((some ⟨b0, o0, none⟩, i, c), ((lineOf V q).map Prod.fst).take i), ((A2, n - (i + 1), c - (i + 1)), ((lineOf V q).map Prod.fst).drop (i + 1))] Z2 hO2 (by intro x hx; simp at hx; rcases hx with rfl | rfl; exact hR1; exact hR2) (by have := HF.out; simp [allOf]; omega) (by simp))
  refine tail_one (i := 16) (by kernel_rfl) rfl (by decide) (fun Kc hK => ?_)
  go_simp
  refine HCC.out.mono ?_
  rintro e Z3 ⟨v3, rfl, ho3, hb3⟩
  obtain ⟨x3, rfl⟩ : ∃ x, v3 = sv x := by obtain ⟨A3, c3, rfl⟩ := ho3.shape; exact ⟨(A3, _, c3), rfl⟩
  have hS3 : Below Z1.heap.size Z1 Z3 := hbs.trans (hb3.mono hbs.size)
  refine hK.out _ _ hS3 (fun _ => ?_)
  clear hK Kc
  try simp only [Act.put, List.setIfInBounds_toArray, List.set_cons_zero, List.set_cons_succ]
  clear HCC
  have h3 := h2.below hS3
  have hall : allOf [((some (⟨b0, o0, none⟩ : Addr), i, c), ((lineOf V q).map Prod.fst).take i), ((A2, n - (i + 1), c - (i + 1)), ((lineOf V q).map Prod.fst).drop (i + 1))] = ((lineOf V q).eraseIdx i).map Prod.fst := by rw [List.eraseIdx_eq_take_drop_succ]; simp [allOf]
  rw [hall] at ho3
  have ho3' : OwnK kSl Z3 Z1.heap.size (sv x3) (((lineOf V q).eraseIdx i).map Prod.fst) := ho3.mono hbs.size
  obtain ⟨Z4, hr4, h4, hg4⟩ := h3.put hq x3 V' ((lineOf V q).eraseIdx i) (fun i => G i ∨ InB x3 i) ho3'.slk hV hsort (fun f hf => .inl (hsub f hf)) (by have := List.length_eraseIdx_le (lineOf V q) i; have := h3.full q; omega) (fun i hi => .inl hi) (fun i hi => .inr hi) (by rintro j (hi | hi); exact h3.gty j hi; obtain ⟨_, cs, m, hh⟩ := own_typed ho3' j hi; exact ⟨cs, _, m, hh, .inr rfl⟩)
  simp only [pval] at hr4
  refine tail_last (by kernel_rfl) rfl (by kernel_rfl) (fun Kc hK => ?_)
  go_simp
  refine hK.out _ _ ?_
  clear hK Kc
  go_wp2
  go_end0
  refine ⟨rfl, ?_, _, _, h4, ?_⟩
  · exact (Keep.of_below (hb2.trans (hS3.mono hb2.size))).trans (Keep.of_grown hg4 (fun k e => by injection e with e; exact e.symm)) (fun _ h => h) (fun _ _ h => h)
  · rintro j (hi | hi)
    · exact .inl hi
    · have := (own_typed ho3' j hi).1
      have := hb2.size
      exact .inr (by omega)
end
end Go.Proofs.Ytellbmghahgjfaa

/-
  Drop, Take, Double, Send where there is such a flight; Len.
-/
import Derived.Test.YtellbmghahgjfaaNetJ
import Derived.Maps.RangeWalk
namespace Go.Proofs.Ytellbmghahgjfaa
open Go.RowKit Go.Maps Go.WideShapes Go.WideMaps
open NetM
set_option linter.unusedVariables false
set_option linter.unusedSimpArgs false
set_option maxRecDepth 20000

section
variable {w w' : World} {p b : Nat} {E lost : Int} {m : Option Nat} {K : Kl} {V : List (Fl Pl)} {G : Nat → Prop}
/-- The net at p has turned: so many lost, these flights. -/
def Turn (w : World) (p b : Nat) (E lost : Int) (V : List (Fl Pl)) (G : Nat → Prop) (w' : World) : Prop :=
  Keep (fun i => i = p ∨ i = b) w w' ∧ ∃ K' G', Nt w' p b E lost K' V G' ∧ ∀ i, G' i → G i ∨ w.heap.size ≤ i
theorem Turn.pre {W : World} {V' : List (Fl Pl)} (hb : Below w.heap.size w W) (h : Turn W p b E lost V' G w') : Turn w p b E lost V' G w' := by
  obtain ⟨hk, K', G', hn, hm⟩ := h
  exact ⟨(Keep.of_below hb).trans hk (fun _ h => h) (fun _ _ h => h), K', G', hn, fun i hi => (hm i hi).imp id (fun h => Nat.le_trans hb.size h)⟩
theorem Turn.below {W : World} {V' : List (Fl Pl)} (h : Turn w p b E lost V' G W) (hb : Below W.heap.size W w') : Turn w p b E lost V' G w' := by
  obtain ⟨hk, K', G', hn, hm⟩ := h
  exact ⟨hk.trans (Keep.of_below hb) (fun _ h => h) (fun _ _ h => h), K', G', hn.below hb, hm⟩
theorem Turn.same (h : Nt w p b E lost K V G) (hb : Below w.heap.size w w') : Turn w p b E lost V G w' := ⟨Keep.of_below hb, K, G, h.below hb, fun i hi => .inl hi⟩
theorem RemEnd.turn {V' : List (Fl Pl)} {e : Ending} (h : RemEnd w p b E lost V' G e w') : Turn w p b E lost V' G w' := ⟨h.2.1.mono (fun _ h => .inr h), h.2.2⟩
theorem rem_at (h : Nt w p b E lost K V G) (i : Nat) (hi : i < V.length) (X : World) (hX : Below w.heap.size w X) : Calls Try.prog 42 #[.pointer (some ⟨p, 0, none⟩), .agg #[.int .i64 V[i].p.1, .int .i64 V[i].p.2, .int .i64 (nth V i V[i].p : Int)]] X (RemEnd X p b E lost (V.eraseIdx i) G) :=
  remove_any (h.below hX) V[i].p (h.inr _ (List.getElem_mem hi)) (nth V i V[i].p) (nth_lt V i hi) _ (fun r => by
    rw [erase_line V i hi r]
    by_cases e : V[i].p = r
    · rw [if_pos e, if_pos e, e]
    · rw [if_neg e, if_neg e]) (erase_sorted h.sorted i) (fun f hf => List.mem_of_mem_eraseIdx hf)
set_option maxHeartbeats 4000000 in
theorem drop_any (h : Nt w p b E lost K V G) (i : Nat) (hi : i < V.length) : Calls Try.prog 28 #[.pointer (some ⟨p, 0, none⟩), .int .i64 (i : Int)] w fun e w' => e = .returned (.int .i64 0) ∧ Turn w p b E lost (V.eraseIdx i) G w' := by
  have hq := find_at h i hi w (Below.refl _ _)
  have HR := Lib.hid (rem_at h i hi)
  obtain ⟨q, hqq⟩ : ∃ q, V[i].p = q := ⟨_, rfl⟩
  obtain ⟨n, hn⟩ : ∃ n, nth V i V[i].p = n := ⟨_, rfl⟩
  rw [hn] at hq HR
  rw [hqq] at hq HR
  obtain ⟨V', hV'⟩ : ∃ V', V.eraseIdx i = V' := ⟨_, rfl⟩
  rw [hV'] at HR ⊢
  clear hqq hn hV' hi
  go_enter Try.func28, Try.ntmps28
  go_upto_region 4 with (go_at_call 40; refine hq.mono ?_; rintro e Z ⟨rfl, hbZ⟩)
  have hbW := hbZ.alloc hbZ.size (.cells #[.int .i64 q.1, .int .i64 q.2, .int .i64 (n : Int)] 70)
  have hSW := Blk.new Z 70 #[.int .i64 q.1, .int .i64 q.2, .int .i64 (n : Int)]
  generalize Z.alloc (.cells #[.int .i64 q.1, .int .i64 q.2, .int .i64 (n : Int)] 70) = W at hbW hSW ⊢
  have a0 : W.cell? ⟨Z.heap.size, 0, none⟩ = some (.int .i64 q.1) := by rw [hSW.cell]; rfl
  have a1 : W.cell? ⟨Z.heap.size, 1, none⟩ = some (.int .i64 q.2) := by rw [hSW.cell]; rfl
  have a2 : W.cell? ⟨Z.heap.size, 2, none⟩ = some (.int .i64 (n : Int)) := by rw [hSW.cell]; rfl
  have HRW := Lib.hid (HR.out W hbW)
  go_wp2_with (go_at_call 42; refine HRW.out.mono ?_; rintro e X ⟨rfl, hx⟩)
  go_ret
  exact ⟨rfl, (RemEnd.turn (e := .returned (.tuple #[])) ⟨rfl, hx⟩).pre hbW⟩
/-- What Take answers and leaves. -/
def TakeEnd (w : World) (p b : Nat) (E lost : Int) (V' : List (Fl Pl)) (G : Nat → Prop) (q : Pr) (bs : List UInt8) (e : Ending) (w' : World) : Prop :=
  ∃ s, e = .returned (.tuple #[.agg #[.int .i64 q.1, .int .i64 q.2, sv s], .int .i64 0]) ∧ Own w' w.heap.size 5 (sv s) bs ∧ Turn w p b E lost V' G w'
set_option maxHeartbeats 4000000 in
theorem take_any (h : Nt w p b E lost K V G) (i : Nat) (hi : i < V.length) : Calls Try.prog 19 #[.pointer (some ⟨p, 0, none⟩), .int .i64 (i : Int)] w (TakeEnd w p b E lost (V.eraseIdx i) G V[i].p V[i].x.2) := by
  have hb1 : Below w.heap.size w (w.alloc (.cells #[.int .i64 0, .int .i64 0, .slice none 0 0] 44)) := (Below.refl _ _).alloc (Nat.le_refl _) _
  have hB := Blk.new w 44 #[.int .i64 0, .int .i64 0, .slice none 0 0]
  have hq := find_at h i hi _ hb1
  have HR := Lib.hid (rem_at h i hi)
  have hin := h.inr _ (List.getElem_mem hi)
  have hnt := nth_at V i hi
  have hbl := h.map.lt
  have hpb := h.gp
  obtain ⟨q, hqq⟩ : ∃ q, V[i].p = q := ⟨_, rfl⟩
  obtain ⟨⟨s0, bs⟩, hxx⟩ : ∃ x, V[i].x = x := ⟨_, rfl⟩
  obtain ⟨n, hn⟩ : ∃ n, nth V i V[i].p = n := ⟨_, rfl⟩
  rw [hn] at hnt hq HR
  rw [hqq] at hnt hq hin HR
  rw [hxx] at hnt
  rw [hqq, hxx]
  obtain ⟨V', hV'⟩ : ∃ V', V.eraseIdx i = V' := ⟨_, rfl⟩
  rw [hV'] at HR ⊢
  have HF := Lib.hid (show ∀ X, Below w.heap.size w X → Calls Try.prog 41 #[.pointer (some ⟨p, 0, none⟩), .agg #[.int .i64 q.1, .int .i64 q.2, .int .i64 (n : Int)]] X (FlEnd X q bs) from fun X hX => flight_any (h.below hX) q hin n s0 bs hnt)
  clear hnt hin hqq hxx hn hV' hi hpb
  have HBL := Lib.hid hbl
  clear hbl
  go_enter Try.func19, Try.ntmps19
  go_upto_region 1 with fail
  generalize w.alloc (.cells #[.int .i64 0, .int .i64 0, .slice none 0 0] 44) = Y at hb1 hB hq ⊢
  go_upto_region 4 with (go_at_call 40; refine hq.mono ?_; rintro e Z ⟨rfl, hbZ⟩; have hBZ := hB.below hbZ hB.lt)
  have hbW := (hb1.trans (hbZ.mono hb1.size)).alloc (by have := hb1.size; have := hbZ.size; omega) (.cells #[.int .i64 q.1, .int .i64 q.2, .int .i64 (n : Int)] 70)
  have hBW := hBZ.alloc (.cells #[.int .i64 q.1, .int .i64 q.2, .int .i64 (n : Int)] 70)
  have hSW := Blk.new Z 70 #[.int .i64 q.1, .int .i64 q.2, .int .i64 (n : Int)]
  clear hB hq hBZ hb1 hbZ
  obtain ⟨z, hz⟩ : ∃ z, Z.heap.size = z := ⟨_, rfl⟩
  rw [hz] at hSW
  rw [hz]
  generalize Z.alloc (.cells #[.int .i64 q.1, .int .i64 q.2, .int .i64 (n : Int)] 70) = W at hbW hBW hSW ⊢
  have a0 : W.cell? ⟨z, 0, none⟩ = some (.int .i64 q.1) := by rw [hSW.cell]; rfl
  have a1 : W.cell? ⟨z, 1, none⟩ = some (.int .i64 q.2) := by rw [hSW.cell]; rfl
  have a2 : W.cell? ⟨z, 2, none⟩ = some (.int .i64 (n : Int)) := by rw [hSW.cell]; rfl
  have HFW := Lib.hid (HF.out W hbW)
  clear hz
  go_upto_region 5 with (go_at_call 41; refine HFW.out.mono ?_; rintro e X ⟨⟨t0, t1, t2⟩, rfl, hoX, hbX⟩; simp only [sv] at *)
  have hbU := (hbW.trans (hbX.mono hbW.size)).alloc (by have := hbW.size; have := hbX.size; omega) (.cells #[.int .i64 q.1, .int .i64 q.2, .slice t0 t1 t2] 44)
  have hBU := (hBW.below hbX hBW.lt).alloc (.cells #[.int .i64 q.1, .int .i64 q.2, .slice t0 t1 t2] 44)
  have hSU := (hSW.below hbX hSW.lt).alloc (.cells #[.int .i64 q.1, .int .i64 q.2, .slice t0 t1 t2] 44)
  have hFU := Blk.new X 44 #[.int .i64 q.1, .int .i64 q.2, .slice t0 t1 t2]
  have hoU : Own (X.alloc (.cells #[.int .i64 q.1, .int .i64 q.2, .slice t0 t1 t2] 44)) W.heap.size 5 (.slice t0 t1 t2) bs := hoX.alloc _
  have hWl := hBW.lt
  have hWw := hbW.size
  clear a0 a1 a2 hbW hBW hSW HFW hoX hbX
  obtain ⟨x, hx⟩ : ∃ x, X.heap.size = x := ⟨_, rfl⟩
  rw [hx] at hFU
  rw [hx]
  generalize X.alloc (.cells #[.int .i64 q.1, .int .i64 q.2, .slice t0 t1 t2] 44) = U at hbU hBU hSU hFU hoU ⊢
  clear hx
  have a0 : U.cell? ⟨z, 0, none⟩ = some (.int .i64 q.1) := by rw [hSU.cell]; rfl
  have a1 : U.cell? ⟨z, 1, none⟩ = some (.int .i64 q.2) := by rw [hSU.cell]; rfl
  have a2 : U.cell? ⟨z, 2, none⟩ = some (.int .i64 (n : Int)) := by rw [hSU.cell]; rfl
  have HRU := Lib.hid (HR.out U hbU)
  have HALL := Lib.hid (And.intro hbU (And.intro hBU (And.intro hFU (And.intro hoU (And.intro hWl hWw)))))
  clear hbU hBU hSU hFU hoU hWl hWw
  go_upto_region 6 with (go_at_call 42; refine HRU.out.mono ?_; rintro e R ⟨rfl, hR⟩)
  obtain ⟨hbU, hBU, hFU, hoU, hWl, hWw⟩ := HALL.out
  have hbl := HBL.out
  have hwU := hBU.lt
  have hxb : x ≠ b := by
    rintro rfl
    have := (h.below hbU).map
    obtain ⟨es, clock, hb, _⟩ := this
    unfold Blk at hFU
    rw [hFU] at hb; cases hb
  have hBR := hBU.kept hR.1 (by omega)
  have hFR := hFU.kept hR.1 hxb
  have hoR : Own R W.heap.size 5 (.slice t0 t1 t2) bs := by
    refine ⟨hoU.1, ?_⟩
    rcases hoU.2 with h0 | ⟨g, cap, cur, hv, hg, hh, r⟩
    · exact .inl h0
    · exact .inr ⟨g, cap, cur, hv, hg, (hR.1.block g (Array.getElem?_eq_some_iff.1 hh).1 (by omega)).trans hh, r⟩
  have hTR := (RemEnd.turn (e := .returned (.tuple #[])) ⟨rfl, hR⟩).pre hbU
  have r0 : R.cell? ⟨w.heap.size, 0, none⟩ = some (.int .i64 0) := by rw [hBR.cell]; rfl
  have r1 : R.cell? ⟨w.heap.size, 1, none⟩ = some (.int .i64 0) := by rw [hBR.cell]; rfl
  have r2 : R.cell? ⟨w.heap.size, 2, none⟩ = some (.slice none 0 0) := by rw [hBR.cell]; rfl
  have g0 := hBR.frozen 0
  have g1 := hBR.frozen 1
  have g2 := hBR.frozen 2
  have x0 : R.cell? ⟨x, 0, none⟩ = some (.int .i64 q.1) := by rw [hFR.cell]; rfl
  have x1 : R.cell? ⟨x, 1, none⟩ = some (.int .i64 q.2) := by rw [hFR.cell]; rfl
  have x2 : R.cell? ⟨x, 2, none⟩ = some (.slice t0 t1 t2) := by rw [hFR.cell]; rfl
  have HE := Lib.hid (And.intro hBR (And.intro hoR (And.intro hTR (And.intro hWl hWw))))
  clear hR hbU hBU hFU hoU hBR hFR hoR hTR hWl hWw hbl hwU hxb a0 a1 a2
  go_wp2
  obtain ⟨hBR, hoR, hTR, hWl, hWw⟩ := HE.out
  have hE : Blk (((R.setCell ⟨w.heap.size, 0, none⟩ (.int .i64 q.1)).setCell ⟨w.heap.size, 1, none⟩ (.int .i64 q.2)).setCell ⟨w.heap.size, 2, none⟩ (.slice t0 t1 t2)) w.heap.size 44 #[.int .i64 q.1, .int .i64 q.2, .slice t0 t1 t2] := ((hBR.set_ 0 (.int .i64 q.1)).set_ 1 (.int .i64 q.2)).set_ 2 (.slice t0 t1 t2)
  have hks : ∀ (A : World) (j : Nat) (u : Value), Keep (fun i => i = w.heap.size) A (A.setCell ⟨w.heap.size, j, none⟩ u) := fun A j u => Keep.setCell A ⟨w.heap.size, j, none⟩ u rfl
  have hKE : Keep (fun i => i = w.heap.size) R (((R.setCell ⟨w.heap.size, 0, none⟩ (.int .i64 q.1)).setCell ⟨w.heap.size, 1, none⟩ (.int .i64 q.2)).setCell ⟨w.heap.size, 2, none⟩ (.slice t0 t1 t2)) :=
    ((hks R 0 _).trans (hks _ 1 _) (fun _ h => h) (fun _ _ h => h)).trans (hks _ 2 _) (fun _ h => h) (fun _ _ h => h)
  have hOE : Own (((R.setCell ⟨w.heap.size, 0, none⟩ (.int .i64 q.1)).setCell ⟨w.heap.size, 1, none⟩ (.int .i64 q.2)).setCell ⟨w.heap.size, 2, none⟩ (.slice t0 t1 t2)) w.heap.size 5 (.slice t0 t1 t2) bs := by
    refine Own.mono (base := W.heap.size) ⟨hoR.1, ?_⟩ hWw
    rcases hoR.2 with h0 | ⟨g, cap, cur, hv, hg, hh, r⟩
    · exact .inl h0
    · exact .inr ⟨g, cap, cur, hv, hg, (hKE.block g (Array.getElem?_eq_some_iff.1 hh).1 (by omega)).trans hh, r⟩
  have hTE : Turn w p b E lost V' G (((R.setCell ⟨w.heap.size, 0, none⟩ (.int .i64 q.1)).setCell ⟨w.heap.size, 1, none⟩ (.int .i64 q.2)).setCell ⟨w.heap.size, 2, none⟩ (.slice t0 t1 t2)) := by
    obtain ⟨hk, K', G', hn, hm⟩ := hTR
    have hpl := h.blk.lt
    have hbl := HBL.out
    refine ⟨hk.trans hKE (fun _ h => h) (fun i hi e => by omega), K', G', hn.kept hKE (by omega) (by omega) (fun i hi e => ?_), hm⟩
    subst e
    obtain ⟨cs, t, mm, hh, ht⟩ := hn.gty _ hi
    have := hh.symm.trans hBR
    injection this with this
    injection this with _ e2 _
    rcases ht with rfl | rfl <;> exact absurd e2 (by decide)
  exact bodyPost_ret (v := .tuple #[.agg #[.int .i64 q.1, .int .i64 q.2, .slice t0 t1 t2], .int .i64 0]) (results_row_tmp rfl _ _ w.heap.size 44 _ (0, 0) _ rfl hE Try.underlying44 rfl info_fl3 _ rfl) rfl ⟨(t0, t1, t2), rfl, hOE, hTE⟩
/-- What Double, or Send, of these ends and bytes answers and leaves. -/
def PutEnd (w : World) (p b : Nat) (E lost : Int) (V : List (Fl Pl)) (G : Nat → Prop) (q : Pr) (bs : List UInt8) (more : Int) (e : Ending) (w' : World) : Prop :=
  (64 ≤ (lineOf V q).length ∧ e = .returned (.int .i64 5) ∧ Turn w p b E (lost + more) V G w') ∨
  ((lineOf V q).length < 64 ∧ e = .returned (.int .i64 0) ∧ ∃ s, Turn w p b E lost (lay V ⟨q, (s, bs)⟩) G w')
set_option maxHeartbeats 4000000 in
theorem double_any (h : Nt w p b E lost K V G) (i : Nat) (hi : i < V.length) : Calls Try.prog 21 #[.pointer (some ⟨p, 0, none⟩), .int .i64 (i : Int)] w (PutEnd w p b E lost V G V[i].p V[i].x.2 0) := by
  have hfo : Try.prog.follows .mixedOrders = true := by kernel_rfl
  have hq := find_at h i hi w (Below.refl _ _)
  have hm := List.getElem_mem hi
  have hin := h.inr _ hm
  have hok := hin.ok h.ends.2
  have hnt := nth_at V i hi
  have hsl := h.by_ _ hm
  have hle := h.lens _ hm
  have hib := h.inb _ hm
  obtain ⟨q, hqq⟩ : ∃ q, V[i].p = q := ⟨_, rfl⟩
  obtain ⟨⟨s, bs⟩, hxx⟩ : ∃ x, V[i].x = x := ⟨_, rfl⟩
  obtain ⟨n, hn⟩ : ∃ n, nth V i V[i].p = n := ⟨_, rfl⟩
  rw [hn] at hnt hq
  rw [hqq] at hnt hq hin hok ⊢
  rw [hxx] at hnt hsl hle hib ⊢
  simp only at hsl hle hib ⊢
  obtain ⟨hnl, hne⟩ := List.getElem?_eq_some_iff.1 hnt
  obtain ⟨⟨A, nn, c⟩, hv⟩ : ∃ s, lineAt K q = s := ⟨_, rfl⟩
  have hnn : nn = (lineOf V q).length := by have := lineAt_len h q; rw [hv] at this; exact this
  have HR := h.row q
  rw [hv] at HR
  simp only [sv] at HR
  obtain ⟨b0, o0, rfl, hx⟩ := HR.at_ n (by rw [List.length_map]; exact hnl)
  have HC := Lib.hid (show ∀ X, Below w.heap.size w X → X.cell? ⟨b0, o0 + n, none⟩ = some (sv s) from fun X hX => by
    have h0 := hx 0 (by decide)
    have e : o0 + (n * kSl.sz + 0) = o0 + n := by show o0 + (n * 1 + 0) = _; omega
    rw [e] at h0
    have hcell : w.cell? ⟨b0, o0 + n, none⟩ = some (sv s) := by rw [h0]; simp [kSl, hne]
    exact (hX.cell (World.block_lt_of_cell? w _ hcell)).trans hcell)
  have hiI : (n : Int) < (nn : Int) := by omega
  have hi0 : (0 : Int) ≤ (n : Int) := by omega
  have h64 : (nn : Int) ≤ 64 := by have := h.full q; omega
  have HADD := Lib.hid (show ∀ X, Below w.heap.size w X → Calls Try.prog 38 #[.pointer (some ⟨p, 0, none⟩), .agg #[.int .i64 q.1, .int .i64 q.2], sv s] X (AddEnd X p b E lost V G q (s, bs)) from fun X hX => add_any (h.below hX) q hin s bs (hsl.below hX) hle (fun j hj => (h.below hX).gty j (hib j hj)))
  have HIB := Lib.hid hib
  have HEND := Lib.hid (show ∀ X e Y, Below w.heap.size w X → AddEnd X p b E lost V G q (s, bs) e Y → PutEnd w p b E lost V G q bs 0 e Y from fun X e Y hX hE => by
    rcases hE with ⟨h1, h2, h3⟩ | ⟨h1, h2, h3, K', G', h4, h5⟩
    · exact .inl ⟨h1, h2, by rw [Int.add_zero]; exact (Turn.same (h.below hX) h3).pre hX⟩
    · exact .inr ⟨h1, h2, s, Turn.pre hX ⟨h3.mono (fun _ h => .inr h), K', G', h4, fun j hj => by
        rcases h5 j hj with h6 | h6 | h6
        · exact .inl h6
        · exact .inl (HIB.out j h6)
        · exact .inr h6⟩⟩)
  obtain ⟨s0, s1, s2⟩ := s
  simp only [sv] at HC HADD
  clear HR hx hnt hnl hne hnn hsl hle hib hqq hxx hn hm hin hi
  go_enter Try.func21, Try.ntmps21
  go_upto_region 4 with (go_at_call 40; refine hq.mono ?_; rintro e Z ⟨rfl, hbZ⟩)
  have hbW := (hbZ.alloc hbZ.size (.cells #[.int .i64 q.1, .int .i64 q.2, .int .i64 (n : Int)] 70))
  have hSW := Blk.new Z 70 #[.int .i64 q.1, .int .i64 q.2, .int .i64 (n : Int)]
  generalize Z.alloc (.cells #[.int .i64 q.1, .int .i64 q.2, .int .i64 (n : Int)] 70) = W at hbW hSW ⊢
  refine wp_region_still_tail 14 hfo (by kernel_rfl) ?_
  simp only [List.take_succ_cons, List.take_zero, List.drop_succ_cons, List.drop_zero]
  change wpStill _ _ W.drew (fun a' => wpList _ _ _ _ a' W.drew) _ _
  have hbD := hbW.trans ((show Below W.heap.size W W.drew from (Below.refl _ _).drew).mono hbW.size)
  have hSD : Blk W.drew Z.heap.size 70 #[.int .i64 q.1, .int .i64 q.2, .int .i64 (n : Int)] := hSW
  clear hbW hSW
  generalize W.drew = D at hbD hSD ⊢
  have a0 : D.cell? ⟨Z.heap.size, 0, none⟩ = some (.int .i64 q.1) := by rw [hSD.cell]; rfl
  have a1 : D.cell? ⟨Z.heap.size, 1, none⟩ = some (.int .i64 q.2) := by rw [hSD.cell]; rfl
  have a2 : D.cell? ⟨Z.heap.size, 2, none⟩ = some (.int .i64 (n : Int)) := by rw [hSD.cell]; rfl
  have c1 := (h.below hbD).c1
  have hlk := (h.below hbD).look hok
  rw [hv] at hlk
  simp only [pval, sv] at hlk
  have hce := HC.out D hbD
  have HAD := Lib.hid (HADD.out D hbD)
  repeat still_step
  refine wpStill_nil ?_
  go_wp2_with (go_at_call 38; refine HAD.out.mono ?_; intro e X hE; obtain ⟨c, rfl⟩ : ∃ c, e = .returned (.int .i64 c) := (by rcases hE with ⟨_, h2, _⟩ | ⟨_, h2, _⟩ <;> exact ⟨_, h2⟩); have HE := Lib.hid hE; clear hE)
  go_ret
  exact HEND.out D _ X hbD HE.out
end
end Go.Proofs.Ytellbmghahgjfaa

/-
  The document's Line and At.
-/
import Derived.Test.YtellbmghahgjfaaNfA
namespace Go.Proofs.Ytellbmghahgjfaa
open Go.RowKit Go.Maps
open NetM
set_option linter.unusedVariables false
set_option linter.unusedSimpArgs false
set_option maxRecDepth 20000
theorem nth_step {α : Type} (L : List (Fl α)) (k : Nat) (hk : k < L.length) (q : Pr) : nth L (k + 1) q = nth L k q + (if L[k].p = q then 1 else 0) := by
  unfold nth
  rw [List.take_succ_eq_append_getElem hk, lineOf_append, List.length_append, lineOf_cons, lineOf_nil]
  by_cases e : L[k].p = q
  · rw [if_pos e, if_pos e]; rfl
  · rw [if_neg e, if_neg e]; rfl
theorem nth_le {α : Type} (L : List (Fl α)) (k : Nat) (q : Pr) : nth L k q ≤ k := by
  unfold nth
  have := lineOf_len (L.take k) q
  rw [List.length_take] at this
  omega
theorem nth_all {α : Type} (L : List (Fl α)) (q : Pr) : nth L L.length q = (lineOf L q).length := by unfold nth; rw [List.take_length]
section
variable {w w' : World} {x B : Nat} {s : Sv} {E lost : Int} {R : List (Fl Pl)}
theorem Rn.c0 (h : Rn w x s E lost R B) : w.cell? ⟨x, 0, none⟩ = some (sv s) := by rw [h.blk.cell]; rfl
theorem Rn.c1 (h : Rn w x s E lost R B) : w.cell? ⟨x, 1, none⟩ = some (.int .i64 E) := by rw [h.blk.cell]; rfl
theorem Rn.c2 (h : Rn w x s E lost R B) : w.cell? ⟨x, 2, none⟩ = some (.int .i64 lost) := by rw [h.blk.cell]; rfl
theorem Rn.shape (h : Rn w x s E lost R B) : ∃ A c, s = (A, R.length, c) := by
  obtain ⟨A, c, e⟩ := h.own.shape
  obtain ⟨s0, s1, s2⟩ := s
  unfold sv at e
  injection e with e1 e2 e3
  rw [List.length_map] at e2
  exact ⟨s0, s2, by rw [← e2]⟩
theorem Rn.row1 {A : Option Addr} {n c : Nat} (h : Rn w x (A, n, c) E lost R B) (h0 : 0 < R.length) : (∃ bs os, A = some ⟨bs, os, none⟩) ∧ R.length ≤ c := by
  obtain ⟨b', o', e, _⟩ := h.own.slk.at_ 0 (by simpa using h0)
  obtain ⟨A', c', e2, hc, _⟩ := h.own.slk
  injection e2 with e1 e2 e3
  rw [List.length_map] at hc
  exact ⟨⟨b', o', e⟩, by have e4 : c = c' := e3; omega⟩
theorem Rn.cells {bs os n c : Nat} (h : Rn w x (some ⟨bs, os, none⟩, n, c) E lost R B) (X : World) (hX : Below w.heap.size w X) (j : Nat) (hj : j < R.length) :
    X.cell? ⟨bs, os + j * 3, none⟩ = some (.int .i64 R[j].p.1) ∧ X.cell? ⟨bs, os + j * 3 + 1, none⟩ = some (.int .i64 R[j].p.2) ∧ X.cell? ⟨bs, os + j * 3 + 2, none⟩ = some (sv R[j].x.1) := by
  have hs := h.own.slk.below hX
  obtain ⟨b', o', e, hc⟩ := hs.at_ j (by simpa using hj)
  injection e with e
  injection e with e1 e2
  subst e1 e2
  have e0 := hc 0 (by decide)
  have e1 := hc 1 (by decide)
  have e2 := hc 2 (by decide)
  simp only [List.getElem_map] at e0 e1 e2
  exact ⟨e0, by rw [Nat.add_assoc]; exact e1, by rw [Nat.add_assoc]; exact e2⟩
set_option maxHeartbeats 2000000 in
theorem refLine_any (h : Rn w x s E lost R B) (hR : R.length ≤ 1000000) (q : Pr) : Calls Try.prog 36 #[.pointer (some ⟨x, 0, none⟩), .int .i64 q.1, .int .i64 q.2] w fun e w' => e = .returned (.int .i64 ((lineOf R q).length : Int)) ∧ w' = w := by
  obtain ⟨A, c, rfl⟩ := h.shape
  have q0 := h.c0
  simp only [sv] at q0
  have H := Lib.hid h
  have HA := Lib.hid (nth_all R q)
  clear h
  go_enter Try.func36, Try.ntmps36
  go_wp2
  go_loopw [7, 8] (fun cc z wr => ∃ k : Nat, k ≤ R.length ∧ cc = .int .i64 (nth R k q : Int) ∧ z = .int .i64 (k : Int) ∧ wr = w) (fun _ z _ => R.length - (intOf z).toNat)
  case atStart => exact ⟨0, Nat.zero_le _, rfl, rfl, rfl⟩
  case round =>
    obtain ⟨k, hk, rfl, rfl, rfl⟩ := hrel
    by_cases hlt : k < R.length
    · have h1 := H.out
      obtain ⟨⟨bs, os, rfl⟩, hcap⟩ := h1.row1 (by omega)
      obtain ⟨c0, c1, c2⟩ := h1.cells _ (Below.refl _ _) k hlt
      have hkI : (k : Int) < (R.length : Int) := by omega
      have hn := nth_le R k q
      have hs := Lib.hid (nth_step R k hlt q)
      generalize nth R k q = m at hn hs ⊢
      obtain ⟨u, hu⟩ : ∃ u, R[k].p = u := ⟨_, rfl⟩
      rw [hu] at c0 c1 hs
      clear hu c2 h1
      by_cases e1 : u.1 = q.1
      · have j1 : (u.1 == q.1) = true := by simp [e1]
        by_cases e2 : u.2 = q.2
        · have j2 : (u.2 == q.2) = true := by simp [e2]
          have hs2 := Lib.hid (show nth R (k + 1) q = m + 1 by rw [hs.out, if_pos (Prod.ext e1 e2)])
          clear e1 e2 hs
          go_wp2
          go_roundw
          case rel => exact ⟨k + 1, by omega, by rw [hs2.out]; go_num, by go_num, trivial⟩
          case measure => simp [intOf]; omega
        · have j2 : (u.2 == q.2) = false := by simp [e2]
          have hs2 := Lib.hid (show nth R (k + 1) q = m by rw [hs.out, if_neg (fun e => e2 (congrArg Prod.snd e))]; rfl)
          clear e1 e2 hs
          go_wp2
          go_roundw
          case rel => exact ⟨k + 1, by omega, by rw [hs2.out], by go_num, trivial⟩
          case measure => simp [intOf]; omega
      · have j1 : (u.1 == q.1) = false := by simp [e1]
        have hs2 := Lib.hid (show nth R (k + 1) q = m by rw [hs.out, if_neg (fun e => e1 (congrArg Prod.fst e))]; rfl)
        clear e1 hs
        go_wp2
        go_roundw
        case rel => exact ⟨k + 1, by omega, by rw [hs2.out], by go_num, trivial⟩
        case measure => simp [intOf]; omega
    · obtain rfl : k = R.length := by omega
      generalize nth R R.length q = m at HA ⊢
      go_wp2
      go_ret
      exact ⟨by rw [HA.out]; rfl, rfl⟩
set_option maxHeartbeats 2000000 in
/-- No flight stands there. -/
theorem refAt_bad (h : Rn w x s E lost R B) (z : Int) (c : Int) (hc : (z < 0 ∧ c = 2) ∨ ((R.length : Int) ≤ z ∧ c = 6)) : Calls Try.prog 35 #[.pointer (some ⟨x, 0, none⟩), .int .i64 z] w fun e w' => e = .returned (.tuple #[.agg #[.int .i64 0, .int .i64 0, .slice none 0 0], .int .i64 c]) ∧ Below w.heap.size w w' := by
  have hb1 : Below w.heap.size w (w.alloc (.cells #[.int .i64 0, .int .i64 0, .slice none 0 0] 44)) := (Below.refl _ _).alloc (Nat.le_refl _) _
  have hB := Blk.new w 44 #[.int .i64 0, .int .i64 0, .slice none 0 0]
  obtain ⟨A, n, rfl⟩ := h.shape
  have q0 := (h.below hb1).c0
  simp only [sv] at q0
  go_enter Try.func35, Try.ntmps35
  go_upto_region 1 with fail
  generalize w.alloc (.cells #[.int .i64 0, .int .i64 0, .slice none 0 0] 44) = Z at hb1 hB q0 ⊢
  have s0 : Z.cell? ⟨w.heap.size, 0, none⟩ = some (.int .i64 0) := by rw [hB.cell]; rfl
  have s1 : Z.cell? ⟨w.heap.size, 1, none⟩ = some (.int .i64 0) := by rw [hB.cell]; rfl
  have s2 : Z.cell? ⟨w.heap.size, 2, none⟩ = some (.slice none 0 0) := by rw [hB.cell]; rfl
  have f0 := hB.frozen 0
  have f1 := hB.frozen 1
  have f2 := hB.frozen 2
  have hzz := hB.lt
  have hE : Blk (((Z.setCell ⟨w.heap.size, 0, none⟩ (.int .i64 0)).setCell ⟨w.heap.size, 1, none⟩ (.int .i64 0)).setCell ⟨w.heap.size, 2, none⟩ (.slice none 0 0)) w.heap.size 44 #[.int .i64 0, .int .i64 0, .slice none 0 0] := ((hB.set_ 0 (.int .i64 0)).set_ 1 (.int .i64 0)).set_ 2 (.slice none 0 0)
  have hBE : Below w.heap.size w (((Z.setCell ⟨w.heap.size, 0, none⟩ (.int .i64 0)).setCell ⟨w.heap.size, 1, none⟩ (.int .i64 0)).setCell ⟨w.heap.size, 2, none⟩ (.slice none 0 0)) := ((hb1.setCell (Nat.le_refl _) _).setCell (Nat.le_refl _) _).setCell (Nat.le_refl _) _
  have HE := Lib.hid (And.intro hE hBE)
  clear hE hBE hB hb1
  rcases hc with ⟨hz, rfl⟩ | ⟨hz, rfl⟩
  · go_wp2
    exact bodyPost_ret (v := .tuple #[.agg #[.int .i64 0, .int .i64 0, .slice none 0 0], .int .i64 2]) (results_row_tmp rfl _ _ w.heap.size 44 _ (0, 0) _ rfl HE.out.1 Try.underlying44 rfl info_fl3 _ rfl) rfl ⟨rfl, HE.out.2⟩
  · have hz0 : ¬ z < 0 := by omega
    go_wp2
    exact bodyPost_ret (v := .tuple #[.agg #[.int .i64 0, .int .i64 0, .slice none 0 0], .int .i64 6]) (results_row_tmp rfl _ _ w.heap.size 44 _ (0, 0) _ rfl HE.out.1 Try.underlying44 rfl info_fl3 _ rfl) rfl ⟨rfl, HE.out.2⟩
set_option maxHeartbeats 2000000 in
theorem refAt_any (h : Rn w x s E lost R B) (i : Nat) (hi : i < R.length) (hR : R.length ≤ 1000000) : Calls Try.prog 35 #[.pointer (some ⟨x, 0, none⟩), .int .i64 (i : Int)] w fun e w' => e = .returned (.tuple #[.agg #[.int .i64 R[i].p.1, .int .i64 R[i].p.2, sv R[i].x.1], .int .i64 0]) ∧ Below w.heap.size w w' := by
  have hb1 : Below w.heap.size w (w.alloc (.cells #[.int .i64 0, .int .i64 0, .slice none 0 0] 44)) := (Below.refl _ _).alloc (Nat.le_refl _) _
  have hB := Blk.new w 44 #[.int .i64 0, .int .i64 0, .slice none 0 0]
  obtain ⟨A, n, rfl⟩ := h.shape
  have q0 := (h.below hb1).c0
  simp only [sv] at q0
  obtain ⟨⟨bs, os, rfl⟩, hcap⟩ := h.row1 (by omega)
  obtain ⟨c0, c1, c2⟩ := h.cells _ hb1 i hi
  obtain ⟨q, hq⟩ : ∃ q, R[i].p = q := ⟨_, rfl⟩
  obtain ⟨⟨t0, t1, t2⟩, ht⟩ : ∃ t, R[i].x.1 = t := ⟨_, rfl⟩
  rw [hq] at c0 c1
  rw [ht] at c2
  rw [hq, ht]
  simp only [sv] at c2 ⊢
  clear hq ht h
  go_enter Try.func35, Try.ntmps35
  go_upto_region 1 with fail
  generalize w.alloc (.cells #[.int .i64 0, .int .i64 0, .slice none 0 0] 44) = Z at hb1 hB q0 c0 c1 c2 ⊢
  have s0 : Z.cell? ⟨w.heap.size, 0, none⟩ = some (.int .i64 0) := by rw [hB.cell]; rfl
  have s1 : Z.cell? ⟨w.heap.size, 1, none⟩ = some (.int .i64 0) := by rw [hB.cell]; rfl
  have s2 : Z.cell? ⟨w.heap.size, 2, none⟩ = some (.slice none 0 0) := by rw [hB.cell]; rfl
  have f0 := hB.frozen 0
  have f1 := hB.frozen 1
  have f2 := hB.frozen 2
  have hzz := hB.lt
  have hE : Blk (((Z.setCell ⟨w.heap.size, 0, none⟩ (.int .i64 q.1)).setCell ⟨w.heap.size, 1, none⟩ (.int .i64 q.2)).setCell ⟨w.heap.size, 2, none⟩ (.slice t0 t1 t2)) w.heap.size 44 #[.int .i64 q.1, .int .i64 q.2, .slice t0 t1 t2] := ((hB.set_ 0 (.int .i64 q.1)).set_ 1 (.int .i64 q.2)).set_ 2 (.slice t0 t1 t2)
  have hBE : Below w.heap.size w (((Z.setCell ⟨w.heap.size, 0, none⟩ (.int .i64 q.1)).setCell ⟨w.heap.size, 1, none⟩ (.int .i64 q.2)).setCell ⟨w.heap.size, 2, none⟩ (.slice t0 t1 t2)) := ((hb1.setCell (Nat.le_refl _) _).setCell (Nat.le_refl _) _).setCell (Nat.le_refl _) _
  have HE := Lib.hid (And.intro hE hBE)
  clear hE hBE hB hb1
  have hiI : (i : Int) < (R.length : Int) := by omega
  go_wp2
  exact bodyPost_ret (v := .tuple #[.agg #[.int .i64 q.1, .int .i64 q.2, .slice t0 t1 t2], .int .i64 0]) (results_row_tmp rfl _ _ w.heap.size 44 _ (0, 0) _ rfl HE.out.1 Try.underlying44 rfl info_fl3 _ rfl) rfl ⟨rfl, HE.out.2⟩
end
end Go.Proofs.Ytellbmghahgjfaa

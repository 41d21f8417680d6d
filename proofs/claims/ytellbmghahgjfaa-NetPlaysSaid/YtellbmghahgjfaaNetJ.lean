/-
  find at places that are none; At, Take, Drop, Double.
-/
import Derived.Test.YtellbmghahgjfaaNetI
namespace Go.Proofs.Ytellbmghahgjfaa
open Go.RowKit Go.Maps Go.WideShapes Go.WideMaps
open NetM
set_option linter.unusedVariables false
set_option linter.unusedSimpArgs false
set_option maxRecDepth 20000

section
variable {w w' : World} {p b : Nat} {E lost : Int} {m : Option Nat} {K : Kl} {V : List (Fl Pl)} {G : Nat → Prop}
/-- find's answer where no flight stands. -/
def NoFind (w : World) (v : Value) (i c : Int) : Prop := ∀ X, Below w.heap.size w X → Calls Try.prog 40 #[v, .int .i64 i] X fun e X' => e = .returned (.tuple #[.agg #[.int .i64 0, .int .i64 0, .int .i64 0], .int .i64 c]) ∧ Below X.heap.size X X'
set_option maxHeartbeats 2000000 in
theorem find_no {v : Value} (h : NoN w v) (i : Int) : NoFind w v i 1 := by
  intro X hX
  have h := h.below hX
  clear hX
  have hb3 : Below X.heap.size X (((X.alloc (.cells #[.int .i64 i] 3)).alloc (.cells #[.int .i64 0, .int .i64 0, .int .i64 0] 70)).alloc (.cells #[.int .i64 0] 24)) := (((Below.refl _ _).alloc (Nat.le_refl _) _).alloc (by simp) _).alloc (by simp; omega) _
  have hq := none_no (h.below hb3)
  have B0 := ((Blk.new X 3 #[.int .i64 i]).alloc (.cells #[.int .i64 0, .int .i64 0, .int .i64 0] 70)).alloc (.cells #[.int .i64 0] 24)
  have B1 := (Blk.new (X.alloc (.cells #[.int .i64 i] 3)) 70 #[.int .i64 0, .int .i64 0, .int .i64 0]).alloc (.cells #[.int .i64 0] 24)
  have B2 := Blk.new ((X.alloc (.cells #[.int .i64 i] 3)).alloc (.cells #[.int .i64 0, .int .i64 0, .int .i64 0] 70)) 24 #[.int .i64 0]
  simp only [World.size_alloc] at B1 B2
  go_enter Try.func40, Try.ntmps40
  go_wp2_with fail
  go_step3
  go_upto_region 1 with fail
  generalize (((X.alloc (.cells #[.int .i64 i] 3)).alloc (.cells #[.int .i64 0, .int .i64 0, .int .i64 0] 70)).alloc (.cells #[.int .i64 0] 24)) = Y at hb3 hq B0 B1 B2 ⊢
  have s0 : Y.cell? ⟨X.heap.size + 1, 0, none⟩ = some (.int .i64 0) := by rw [B1.cell]; rfl
  have s1 : Y.cell? ⟨X.heap.size + 1, 1, none⟩ = some (.int .i64 0) := by rw [B1.cell]; rfl
  have s2 : Y.cell? ⟨X.heap.size + 1, 2, none⟩ = some (.int .i64 0) := by rw [B1.cell]; rfl
  have s3 : Y.cell? ⟨X.heap.size + 1 + 1, 0, none⟩ = some (.int .i64 0) := by rw [B2.cell]; rfl
  have s4 : Y.cell? ⟨X.heap.size, 0, none⟩ = some (.int .i64 i) := by rw [B0.cell]; rfl
  have f0 := B1.frozen 0
  have f1 := B1.frozen 1
  have f2 := B1.frozen 2
  have f3 := B2.frozen 0
  have HA := Lib.hid (And.intro B1 (And.intro B2 hb3))
  clear B0 B1 B2 hb3
  go_wp2_with (go_at_call 29; refine hq.mono ?_; rintro e w2 ⟨rfl, hwd⟩; obtain rfl := hwd.symm)
  have k0 : Blk ((((Y.setCell ⟨X.heap.size + 1, 0, none⟩ (.int .i64 0)).setCell ⟨X.heap.size + 1, 1, none⟩ (.int .i64 0)).setCell ⟨X.heap.size + 1, 2, none⟩ (.int .i64 0)).setCell ⟨X.heap.size + 1 + 1, 0, none⟩ (.int .i64 1)) (X.heap.size + 1) 70 #[.int .i64 0, .int .i64 0, .int .i64 0] :=
    (((HA.out.1.set_ 0 (.int .i64 0)).set_ 1 (.int .i64 0)).set_ 2 (.int .i64 0)).far (by simp) _
  have k1 : Blk ((((Y.setCell ⟨X.heap.size + 1, 0, none⟩ (.int .i64 0)).setCell ⟨X.heap.size + 1, 1, none⟩ (.int .i64 0)).setCell ⟨X.heap.size + 1, 2, none⟩ (.int .i64 0)).setCell ⟨X.heap.size + 1 + 1, 0, none⟩ (.int .i64 1)) (X.heap.size + 1 + 1) 24 #[.int .i64 1] :=
    (((HA.out.2.1.far (by simp) _).far (by simp) _).far (by simp) _).set_ 0 (.int .i64 1)
  have kb : Below X.heap.size X ((((Y.setCell ⟨X.heap.size + 1, 0, none⟩ (.int .i64 0)).setCell ⟨X.heap.size + 1, 1, none⟩ (.int .i64 0)).setCell ⟨X.heap.size + 1, 2, none⟩ (.int .i64 0)).setCell ⟨X.heap.size + 1 + 1, 0, none⟩ (.int .i64 1)) :=
    (((HA.out.2.2.setCell (by simp) _).setCell (by simp) _).setCell (by simp) _).setCell (by simp; omega) _
  try rw [Exit.noGoto_ret]
  exact bodyPost_ret (v := .tuple #[.agg #[.int .i64 0, .int .i64 0, .int .i64 0], .int .i64 1]) (results_row_cell rfl _ _ (X.heap.size + 1) 70 _ (0, 0) _ rfl k0 Try.underlying70 rfl info_spot (X.heap.size + 1 + 1) (.int .i64 1) rfl (load_errno _ _ _ (by rw [k1.cell]; rfl))) rfl ⟨rfl, kb⟩
set_option maxHeartbeats 2000000 in
theorem find_neg (h : Nt w p b E lost K V G) (i : Int) (hi : i < 0) : NoFind w (.pointer (some ⟨p, 0, none⟩)) i 2 := by
  intro X hX
  have h := h.below hX
  clear hX
  have hb3 : Below X.heap.size X (((X.alloc (.cells #[.int .i64 i] 3)).alloc (.cells #[.int .i64 0, .int .i64 0, .int .i64 0] 70)).alloc (.cells #[.int .i64 0] 24)) := (((Below.refl _ _).alloc (Nat.le_refl _) _).alloc (by simp) _).alloc (by simp; omega) _
  have hq := none_any (h.below hb3)
  have B0 := ((Blk.new X 3 #[.int .i64 i]).alloc (.cells #[.int .i64 0, .int .i64 0, .int .i64 0] 70)).alloc (.cells #[.int .i64 0] 24)
  have B1 := (Blk.new (X.alloc (.cells #[.int .i64 i] 3)) 70 #[.int .i64 0, .int .i64 0, .int .i64 0]).alloc (.cells #[.int .i64 0] 24)
  have B2 := Blk.new ((X.alloc (.cells #[.int .i64 i] 3)).alloc (.cells #[.int .i64 0, .int .i64 0, .int .i64 0] 70)) 24 #[.int .i64 0]
  simp only [World.size_alloc] at B1 B2
  go_enter Try.func40, Try.ntmps40
  go_wp2_with fail
  go_step3
  go_upto_region 1 with fail
  generalize (((X.alloc (.cells #[.int .i64 i] 3)).alloc (.cells #[.int .i64 0, .int .i64 0, .int .i64 0] 70)).alloc (.cells #[.int .i64 0] 24)) = Y at hb3 hq B0 B1 B2 ⊢
  have s0 : Y.cell? ⟨X.heap.size + 1, 0, none⟩ = some (.int .i64 0) := by rw [B1.cell]; rfl
  have s1 : Y.cell? ⟨X.heap.size + 1, 1, none⟩ = some (.int .i64 0) := by rw [B1.cell]; rfl
  have s2 : Y.cell? ⟨X.heap.size + 1, 2, none⟩ = some (.int .i64 0) := by rw [B1.cell]; rfl
  have s3 : Y.cell? ⟨X.heap.size + 1 + 1, 0, none⟩ = some (.int .i64 0) := by rw [B2.cell]; rfl
  have s4 : Y.cell? ⟨X.heap.size, 0, none⟩ = some (.int .i64 i) := by rw [B0.cell]; rfl
  have f0 := B1.frozen 0
  have f1 := B1.frozen 1
  have f2 := B1.frozen 2
  have f3 := B2.frozen 0
  have HA := Lib.hid (And.intro B1 (And.intro B2 hb3))
  clear B0 B1 B2 hb3
  go_wp2_with (go_at_call 29; refine hq.mono ?_; rintro e w2 ⟨rfl, hwd⟩; obtain rfl := hwd.symm)
  have k0 : Blk ((((Y.setCell ⟨X.heap.size + 1, 0, none⟩ (.int .i64 0)).setCell ⟨X.heap.size + 1, 1, none⟩ (.int .i64 0)).setCell ⟨X.heap.size + 1, 2, none⟩ (.int .i64 0)).setCell ⟨X.heap.size + 1 + 1, 0, none⟩ (.int .i64 2)) (X.heap.size + 1) 70 #[.int .i64 0, .int .i64 0, .int .i64 0] :=
    (((HA.out.1.set_ 0 (.int .i64 0)).set_ 1 (.int .i64 0)).set_ 2 (.int .i64 0)).far (by simp) _
  have k1 : Blk ((((Y.setCell ⟨X.heap.size + 1, 0, none⟩ (.int .i64 0)).setCell ⟨X.heap.size + 1, 1, none⟩ (.int .i64 0)).setCell ⟨X.heap.size + 1, 2, none⟩ (.int .i64 0)).setCell ⟨X.heap.size + 1 + 1, 0, none⟩ (.int .i64 2)) (X.heap.size + 1 + 1) 24 #[.int .i64 2] :=
    (((HA.out.2.1.far (by simp) _).far (by simp) _).far (by simp) _).set_ 0 (.int .i64 2)
  have kb : Below X.heap.size X ((((Y.setCell ⟨X.heap.size + 1, 0, none⟩ (.int .i64 0)).setCell ⟨X.heap.size + 1, 1, none⟩ (.int .i64 0)).setCell ⟨X.heap.size + 1, 2, none⟩ (.int .i64 0)).setCell ⟨X.heap.size + 1 + 1, 0, none⟩ (.int .i64 2)) :=
    (((HA.out.2.2.setCell (by simp) _).setCell (by simp) _).setCell (by simp) _).setCell (by simp; omega) _
  try rw [Exit.noGoto_ret]
  exact bodyPost_ret (v := .tuple #[.agg #[.int .i64 0, .int .i64 0, .int .i64 0], .int .i64 2]) (results_row_cell rfl _ _ (X.heap.size + 1) 70 _ (0, 0) _ rfl k0 Try.underlying70 rfl info_spot (X.heap.size + 1 + 1) (.int .i64 2) rfl (load_errno _ _ _ (by rw [k1.cell]; rfl))) rfl ⟨rfl, kb⟩
theorem find_out (h : Nt w p b E lost K V G) (i : Nat) (hi : V.length ≤ i) (hi2 : (i : Int) ≤ 9223372036854775807) : NoFind w (.pointer (some ⟨p, 0, none⟩)) (i : Int) 6 := by
  intro X hX
  refine (find_any (h.below hX) i hi2).mono ?_
  rintro e X' ⟨hb, ⟨hl, _⟩ | ⟨_, rfl⟩⟩
  · omega
  · exact ⟨rfl, hb⟩
theorem find_at (h : Nt w p b E lost K V G) (i : Nat) (hi : i < V.length) : ∀ X, Below w.heap.size w X → Calls Try.prog 40 #[.pointer (some ⟨p, 0, none⟩), .int .i64 (i : Int)] X fun e X' => e = .returned (.tuple #[.agg #[.int .i64 V[i].p.1, .int .i64 V[i].p.2, .int .i64 (nth V i V[i].p : Int)], .int .i64 0]) ∧ Below X.heap.size X X' := by
  intro X hX
  have hf := h.ls.few
  refine (find_any (h.below hX) i (by omega)).mono ?_
  rintro e X' ⟨hb, ⟨_, rfl⟩ | ⟨hl, _⟩⟩
  · exact ⟨rfl, hb⟩
  · omega
theorem Own.farB {base : Nat} {e : TypeId} {v : Value} {l : List UInt8} {g : Nat} (h : Own w base e v l) (hg : ∀ k, base ≤ k → k ≠ g) {j : Nat} (u : Value) : Own (w.setCell ⟨g, j, none⟩ u) base e v l := by
  refine ⟨h.1, ?_⟩
  rcases h.2 with h2 | ⟨k, cap, cur, hv, hk, hh, r⟩
  · exact .inl h2
  · exact .inr ⟨k, cap, cur, hv, hk, (Below.heap_setCell _ _ _ k (hg k hk)).trans hh, r⟩
set_option maxHeartbeats 2000000 in
/-- Where no flight stands: a zero one, and why. -/
theorem at_bad {v : Value} {i c : Int} (hf : NoFind w v i c) (hc : c ≠ 0) : Calls Try.prog 18 #[v, .int .i64 i] w fun e w' => e = .returned (.tuple #[.agg #[.int .i64 0, .int .i64 0, .slice none 0 0], .int .i64 c]) ∧ Below w.heap.size w w' := by
  have hb1 : Below w.heap.size w (w.alloc (.cells #[.int .i64 0, .int .i64 0, .slice none 0 0] 44)) := (Below.refl _ _).alloc (Nat.le_refl _) _
  have hB := Blk.new w 44 #[.int .i64 0, .int .i64 0, .slice none 0 0]
  have hq := hf _ hb1
  have hcb : (c == 0) = false := by simpa using hc
  have hcn : (c != 0) = true := by simpa using hc
  go_enter Try.func18, Try.ntmps18
  go_upto_region 1 with fail
  generalize w.alloc (.cells #[.int .i64 0, .int .i64 0, .slice none 0 0] 44) = Y at hb1 hB hq ⊢
  go_wp2_with (go_at_call 40; refine hq.mono ?_; rintro e Z ⟨rfl, hbZ⟩; have hBZ := hB.below hbZ hB.lt; have s0 : Z.cell? ⟨w.heap.size, 0, none⟩ = some (.int .i64 0) := (by rw [hBZ.cell]; rfl); have s1 : Z.cell? ⟨w.heap.size, 1, none⟩ = some (.int .i64 0) := (by rw [hBZ.cell]; rfl); have s2 : Z.cell? ⟨w.heap.size, 2, none⟩ = some (.slice none 0 0) := (by rw [hBZ.cell]; rfl); have f0 := hBZ.frozen 0; have f1 := hBZ.frozen 1; have f2 := hBZ.frozen 2; have hzz := hBZ.lt)
  have hE : Blk ((((Z.setCell ⟨w.heap.size, 0, none⟩ (.int .i64 0)).setCell ⟨w.heap.size, 1, none⟩ (.int .i64 0)).setCell ⟨w.heap.size, 2, none⟩ (.slice none 0 0)).alloc (.cells #[.int .i64 0, .int .i64 0, .int .i64 0] 70)) w.heap.size 44 #[.int .i64 0, .int .i64 0, .slice none 0 0] := (((hBZ.set_ 0 (.int .i64 0)).set_ 1 (.int .i64 0)).set_ 2 (.slice none 0 0)).alloc _
  have hBE : Below w.heap.size w ((((Z.setCell ⟨w.heap.size, 0, none⟩ (.int .i64 0)).setCell ⟨w.heap.size, 1, none⟩ (.int .i64 0)).setCell ⟨w.heap.size, 2, none⟩ (.slice none 0 0)).alloc (.cells #[.int .i64 0, .int .i64 0, .int .i64 0] 70)) := ((((hb1.trans (hbZ.mono hb1.size)).setCell (Nat.le_refl _) _).setCell (Nat.le_refl _) _).setCell (Nat.le_refl _) _).alloc (by simp [World.setCell]; omega) _
  exact bodyPost_ret (v := .tuple #[.agg #[.int .i64 0, .int .i64 0, .slice none 0 0], .int .i64 c]) (results_row_tmp rfl _ _ w.heap.size 44 _ (0, 0) _ rfl hE Try.underlying44 rfl info_fl3 _ rfl) rfl ⟨rfl, hBE⟩
set_option maxHeartbeats 2000000 in
/-- Where no flight stands: a zero one, and why. -/
theorem take_bad {v : Value} {i c : Int} (hf : NoFind w v i c) (hc : c ≠ 0) : Calls Try.prog 19 #[v, .int .i64 i] w fun e w' => e = .returned (.tuple #[.agg #[.int .i64 0, .int .i64 0, .slice none 0 0], .int .i64 c]) ∧ Below w.heap.size w w' := by
  have hb1 : Below w.heap.size w (w.alloc (.cells #[.int .i64 0, .int .i64 0, .slice none 0 0] 44)) := (Below.refl _ _).alloc (Nat.le_refl _) _
  have hB := Blk.new w 44 #[.int .i64 0, .int .i64 0, .slice none 0 0]
  have hq := hf _ hb1
  have hcb : (c == 0) = false := by simpa using hc
  have hcn : (c != 0) = true := by simpa using hc
  go_enter Try.func19, Try.ntmps19
  go_upto_region 1 with fail
  generalize w.alloc (.cells #[.int .i64 0, .int .i64 0, .slice none 0 0] 44) = Y at hb1 hB hq ⊢
  go_wp2_with (go_at_call 40; refine hq.mono ?_; rintro e Z ⟨rfl, hbZ⟩; have hBZ := hB.below hbZ hB.lt; have s0 : Z.cell? ⟨w.heap.size, 0, none⟩ = some (.int .i64 0) := (by rw [hBZ.cell]; rfl); have s1 : Z.cell? ⟨w.heap.size, 1, none⟩ = some (.int .i64 0) := (by rw [hBZ.cell]; rfl); have s2 : Z.cell? ⟨w.heap.size, 2, none⟩ = some (.slice none 0 0) := (by rw [hBZ.cell]; rfl); have f0 := hBZ.frozen 0; have f1 := hBZ.frozen 1; have f2 := hBZ.frozen 2; have hzz := hBZ.lt)
  have hE : Blk ((((Z.setCell ⟨w.heap.size, 0, none⟩ (.int .i64 0)).setCell ⟨w.heap.size, 1, none⟩ (.int .i64 0)).setCell ⟨w.heap.size, 2, none⟩ (.slice none 0 0)).alloc (.cells #[.int .i64 0, .int .i64 0, .int .i64 0] 70)) w.heap.size 44 #[.int .i64 0, .int .i64 0, .slice none 0 0] := (((hBZ.set_ 0 (.int .i64 0)).set_ 1 (.int .i64 0)).set_ 2 (.slice none 0 0)).alloc _
  have hBE : Below w.heap.size w ((((Z.setCell ⟨w.heap.size, 0, none⟩ (.int .i64 0)).setCell ⟨w.heap.size, 1, none⟩ (.int .i64 0)).setCell ⟨w.heap.size, 2, none⟩ (.slice none 0 0)).alloc (.cells #[.int .i64 0, .int .i64 0, .int .i64 0] 70)) := ((((hb1.trans (hbZ.mono hb1.size)).setCell (Nat.le_refl _) _).setCell (Nat.le_refl _) _).setCell (Nat.le_refl _) _).alloc (by simp [World.setCell]; omega) _
  exact bodyPost_ret (v := .tuple #[.agg #[.int .i64 0, .int .i64 0, .slice none 0 0], .int .i64 c]) (results_row_tmp rfl _ _ w.heap.size 44 _ (0, 0) _ rfl hE Try.underlying44 rfl info_fl3 _ rfl) rfl ⟨rfl, hBE⟩
set_option maxHeartbeats 2000000 in
theorem drop_bad {v : Value} {i c : Int} (hf : NoFind w v i c) (hc : c ≠ 0) : Calls Try.prog 28 #[v, .int .i64 i] w fun e w' => e = .returned (.int .i64 c) ∧ Below w.heap.size w w' := by
  have hq := hf _ (Below.refl _ _)
  have hcb : (c == 0) = false := by simpa using hc
  have hcn : (c != 0) = true := by simpa using hc
  go_enter Try.func28, Try.ntmps28
  go_wp2_with (go_at_call 40; refine hq.mono ?_; rintro e Z ⟨rfl, hbZ⟩)
  go_ret
  exact ⟨rfl, hbZ.alloc hbZ.size _⟩
set_option maxHeartbeats 2000000 in
theorem double_bad {v : Value} {i c : Int} (hf : NoFind w v i c) (hc : c ≠ 0) : Calls Try.prog 21 #[v, .int .i64 i] w fun e w' => e = .returned (.int .i64 c) ∧ Below w.heap.size w w' := by
  have hq := hf _ (Below.refl _ _)
  have hcb : (c == 0) = false := by simpa using hc
  have hcn : (c != 0) = true := by simpa using hc
  go_enter Try.func21, Try.ntmps21
  go_wp2_with (go_at_call 40; refine hq.mono ?_; rintro e Z ⟨rfl, hbZ⟩)
  go_ret
  exact ⟨rfl, hbZ.alloc hbZ.size _⟩
set_option maxHeartbeats 4000000 in
/-- At: the flight there, with bytes of its own. -/
theorem at_any (h : Nt w p b E lost K V G) (i : Nat) (hi : i < V.length) : Calls Try.prog 18 #[.pointer (some ⟨p, 0, none⟩), .int .i64 (i : Int)] w fun e w' => ∃ s, e = .returned (.tuple #[.agg #[.int .i64 V[i].p.1, .int .i64 V[i].p.2, sv s], .int .i64 0]) ∧ Own w' w.heap.size 5 (sv s) V[i].x.2 ∧ Below w.heap.size w w' := by
  have hb1 : Below w.heap.size w (w.alloc (.cells #[.int .i64 0, .int .i64 0, .slice none 0 0] 44)) := (Below.refl _ _).alloc (Nat.le_refl _) _
  have hB := Blk.new w 44 #[.int .i64 0, .int .i64 0, .slice none 0 0]
  have hq := find_at h i hi _ hb1
  have hm := List.getElem_mem hi
  have hin := h.inr _ hm
  have hnt := nth_at V i hi
  obtain ⟨q, hqq⟩ : ∃ q, V[i].p = q := ⟨_, rfl⟩
  obtain ⟨⟨s0, bs⟩, hxx⟩ : ∃ x, V[i].x = x := ⟨_, rfl⟩
  obtain ⟨n, hn⟩ : ∃ n, nth V i V[i].p = n := ⟨_, rfl⟩
  rw [hn] at hnt hq
  rw [hqq] at hnt hq hin
  rw [hxx] at hnt
  rw [hqq, hxx]
  have HF := Lib.hid (show ∀ X, Below w.heap.size w X → Calls Try.prog 41 #[.pointer (some ⟨p, 0, none⟩), .agg #[.int .i64 q.1, .int .i64 q.2, .int .i64 (n : Int)]] X (FlEnd X q bs) from fun X hX => flight_any (h.below hX) q hin n s0 bs hnt)
  clear hnt hin hm hqq hxx hn
  go_enter Try.func18, Try.ntmps18
  go_upto_region 1 with fail
  generalize w.alloc (.cells #[.int .i64 0, .int .i64 0, .slice none 0 0] 44) = Y at hb1 hB hq ⊢
  go_upto_region 4 with (go_at_call 40; refine hq.mono ?_; rintro e Z ⟨rfl, hbZ⟩; have hBZ := hB.below hbZ hB.lt; have s0 : Z.cell? ⟨w.heap.size, 0, none⟩ = some (.int .i64 0) := (by rw [hBZ.cell]; rfl); have s1 : Z.cell? ⟨w.heap.size, 1, none⟩ = some (.int .i64 0) := (by rw [hBZ.cell]; rfl); have s2 : Z.cell? ⟨w.heap.size, 2, none⟩ = some (.slice none 0 0) := (by rw [hBZ.cell]; rfl); have f0 := hBZ.frozen 0; have f1 := hBZ.frozen 1; have f2 := hBZ.frozen 2; have hzz := hBZ.lt)
  have hbW := (hb1.trans (hbZ.mono hb1.size)).alloc (by have := hb1.size; have := hbZ.size; omega) (.cells #[.int .i64 q.1, .int .i64 q.2, .int .i64 (n : Int)] 70)
  have hBW := hBZ.alloc (.cells #[.int .i64 q.1, .int .i64 q.2, .int .i64 (n : Int)] 70)
  have hSW := Blk.new Z 70 #[.int .i64 q.1, .int .i64 q.2, .int .i64 (n : Int)]
  clear s0 s1 s2 f0 f1 f2 hzz hB hq hBZ hb1
  generalize Z.alloc (.cells #[.int .i64 q.1, .int .i64 q.2, .int .i64 (n : Int)] 70) = W at hbW hBW hSW ⊢
  have a0 : W.cell? ⟨Z.heap.size, 0, none⟩ = some (.int .i64 q.1) := by rw [hSW.cell]; rfl
  have a1 : W.cell? ⟨Z.heap.size, 1, none⟩ = some (.int .i64 q.2) := by rw [hSW.cell]; rfl
  have a2 : W.cell? ⟨Z.heap.size, 2, none⟩ = some (.int .i64 (n : Int)) := by rw [hSW.cell]; rfl
  have HFW := Lib.hid (HF.out W hbW)
  go_wp2_with (go_at_call 41; refine HFW.out.mono ?_; rintro e X ⟨⟨t0, t1, t2⟩, rfl, hoX, hbX⟩; have hBX := hBW.below hbX hBW.lt; simp only [sv]; have r0 : X.cell? ⟨w.heap.size, 0, none⟩ = some (.int .i64 0) := (by rw [hBX.cell]; rfl); have r1 : X.cell? ⟨w.heap.size, 1, none⟩ = some (.int .i64 0) := (by rw [hBX.cell]; rfl); have r2 : X.cell? ⟨w.heap.size, 2, none⟩ = some (.slice none 0 0) := (by rw [hBX.cell]; rfl); have g0 := hBX.frozen 0; have g1 := hBX.frozen 1; have g2 := hBX.frozen 2; have HO := Lib.hid hoX; clear hoX)
  have hE : Blk (((X.setCell ⟨w.heap.size, 0, none⟩ (.int .i64 q.1)).setCell ⟨w.heap.size, 1, none⟩ (.int .i64 q.2)).setCell ⟨w.heap.size, 2, none⟩ (.slice t0 t1 t2)) w.heap.size 44 #[.int .i64 q.1, .int .i64 q.2, .slice t0 t1 t2] := ((hBX.set_ 0 (.int .i64 q.1)).set_ 1 (.int .i64 q.2)).set_ 2 (.slice t0 t1 t2)
  have hBE : Below w.heap.size w (((X.setCell ⟨w.heap.size, 0, none⟩ (.int .i64 q.1)).setCell ⟨w.heap.size, 1, none⟩ (.int .i64 q.2)).setCell ⟨w.heap.size, 2, none⟩ (.slice t0 t1 t2)) := (((hbW.trans (hbX.mono hbW.size)).setCell (Nat.le_refl _) _).setCell (Nat.le_refl _) _).setCell (Nat.le_refl _) _
  have hOE : Own (((X.setCell ⟨w.heap.size, 0, none⟩ (.int .i64 q.1)).setCell ⟨w.heap.size, 1, none⟩ (.int .i64 q.2)).setCell ⟨w.heap.size, 2, none⟩ (.slice t0 t1 t2)) w.heap.size 5 (.slice t0 t1 t2) bs := by
    have hne : ∀ g, W.heap.size ≤ g → g ≠ w.heap.size := fun g hg => by have := hBW.lt; omega
    have h1 : ∀ (A : World) (j : Nat) (u : Value), Own A W.heap.size 5 (.slice t0 t1 t2) bs → Own (A.setCell ⟨w.heap.size, j, none⟩ u) W.heap.size 5 (.slice t0 t1 t2) bs := fun A j u ho => ho.farB (fun g hg => hne g hg) u
    exact (h1 _ 2 _ (h1 _ 1 _ (h1 _ 0 _ HO.out))).mono hbW.size
  exact bodyPost_ret (v := .tuple #[.agg #[.int .i64 q.1, .int .i64 q.2, .slice t0 t1 t2], .int .i64 0]) (results_row_tmp rfl _ _ w.heap.size 44 _ (0, 0) _ rfl hE Try.underlying44 rfl info_fl3 _ rfl) rfl ⟨(t0, t1, t2), rfl, hOE, hBE⟩
end
end Go.Proofs.Ytellbmghahgjfaa

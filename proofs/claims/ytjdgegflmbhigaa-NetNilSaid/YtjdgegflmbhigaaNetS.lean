/-
  NetNil's walk.
-/
import Derived.Test.YtjdgegflmbhigaaNetQ
import Derived.Deep.OwnRows
namespace Go.Proofs.Ytjdgegflmbhigaa
open Go.RowKit Go.Maps Go.WideShapes Go.WideMaps
open NetM
set_option linter.unusedVariables false
set_option linter.unusedSimpArgs false
set_option maxRecDepth 20000

/-- A row of noughts. -/
def nzR (n : Nat) : Array Value := madeCells #[.int .u8 0] n
def nZ (n : Nat) : List UInt8 := List.replicate n 0
theorem nZ_length (n : Nat) : (nZ n).length = n := by unfold nZ; exact List.length_replicate
theorem nmake (n : Nat) (z : Int) (hz : z = (n : Int)) (hn : n ≤ 1000000000) (w : World) : (Instr.makeSlice 37 (.int .i64 z) (.int .i64 z)).run Try.prog w = .ok (.slice (some ⟨w.heap.size, 0, none⟩) n n) (w.alloc (.cells (nzR n) 5)) := by
  subst hz
  exact run_make_row' (P := Try.prog) 37 5 (.int .u8 0) 1 Try.underlying37 info_u8 rfl .i64 .i64 n (by omega) (by omega) w
theorem nzR_list (n : Nat) : (nzR n).toList = (nZ n).map bv := by
  unfold nzR nZ
  rw [toList_madeCells_one]
  simp [bv]
theorem sl_nz {w : World} {b n : Nat} (h : Blk w b 5 (nzR n)) : Sl w (.slice (some ⟨b, 0, none⟩) n n) (nZ n) := by
  have hl := nZ_length n
  refine ⟨_, n, by rw [hl], by omega, fun _ => ⟨b, 0, rfl, fun j hj => ?_⟩⟩
  rw [h.cell, Nat.zero_add, ← Array.getElem?_toList, nzR_list]
  simp [List.getElem?_eq_getElem hj, bv]
section
variable {w w' : World} {p b : Nat} {E lost : Int} {m : Option Nat} {K : Kl} {V : List (Fl Pl)} {G : Nat → Prop}
/-- All in flight of these ends, so many. -/
def All12 (V : List (Fl Pl)) (n : Nat) : Prop := V.length = n ∧ ∀ f ∈ V, f.p = ((1, 2) : Pr)
theorem All12.line {n : Nat} (h : All12 V n) : (lineOf V (1, 2)).length = n := by
  unfold lineOf
  rw [List.length_map, List.filter_eq_self.2 (fun f hf => by simp [h.2 f hf]), h.1]
theorem All12.line21 {n : Nat} (h : All12 V n) : (lineOf V (2, 1)).length = 0 := by
  rw [lineOf_none (fun f hf => by rw [h.2 f hf]; decide)]; rfl
theorem All12.lay {n : Nat} (h : All12 V n) (x : Pl) : All12 (NetM.lay V ⟨(1, 2), x⟩) (n + 1) :=
  ⟨by rw [lay_len, h.1], fun f hf => by rcases mem_lay.1 hf with rfl | hf; rfl; exact h.2 f hf⟩
theorem All12.gone {n : Nat} (h : All12 V n) (x : Pl) : (clear (NetM.lay V ⟨(2, 1), x⟩) 2).length = 1 := by
  have e : clear (NetM.lay V ⟨(2, 1), x⟩) 2 = [⟨(2, 1), x⟩] := by
    unfold clear NetM.lay
    rw [List.filter_append, List.filter_cons, if_pos (by simp)]
    have h1 : ∀ L : List (Fl Pl), (∀ f ∈ L, f ∈ V) → L.filter (fun f => !decide (f.p.2 = 2)) = [] := fun L hL => List.filter_eq_nil_iff.2 fun f hf => by rw [h.2 f (hL f hf)]; decide
    rw [h1 _ (fun f hf => (List.takeWhile_sublist _).mem hf), h1 _ (fun f hf => (List.dropWhile_sublist _).mem hf)]
    rfl
  rw [e]; rfl
/-- A Send into a line, of no bytes. -/
theorem send0 (h : Nt w p b E lost K V G) (c d : Int) (hq : InR E (c, d)) (hlo : lost ≤ 1000) : Calls Try.prog 17 #[.pointer (some ⟨p, 0, none⟩), .int .i64 c, .int .i64 d, .slice none 0 0] w (PutEnd w p b E lost V G (c, d) [] 1) :=
  send_any h (c, d) _ [] (Sl.nil _ _) ⟨hq, by simp⟩ (by omega)
theorem full12 (h : Nt w p b 2 0 K V G) (ha : All12 V 64) : Calls Try.prog 17 #[.pointer (some ⟨p, 0, none⟩), .int .i64 1, .int .i64 2, .slice none 0 0] w fun e w' => e = .returned (.int .i64 5) ∧ ∃ K' G', Nt w' p b 2 1 K' V G' ∧ Keep (fun i => i = p ∨ i = b) w w' := by
  refine (send0 h 1 2 (by decide) (by decide)).mono ?_
  rintro e w' (⟨_, rfl, hT⟩ | ⟨h1, _⟩)
  · obtain ⟨hk, K', G', hn, _⟩ := hT
    exact ⟨rfl, K', G', hn, hk⟩
  · rw [ha.line] at h1; omega
theorem dbl12 (h : Nt w p b 2 1 K V G) (ha : All12 V 64) : Calls Try.prog 21 #[.pointer (some ⟨p, 0, none⟩), .int .i64 3] w fun e w' => e = .returned (.int .i64 5) ∧ ∃ K' G', Nt w' p b 2 1 K' V G' ∧ Keep (fun i => i = p ∨ i = b) w w' := by
  have hl : 3 < V.length := by rw [ha.1]; omega
  have hp := ha.2 _ (List.getElem_mem hl)
  refine (show Calls Try.prog 21 #[.pointer (some ⟨p, 0, none⟩), .int .i64 3] w _ from double_any h 3 hl).mono ?_
  rintro e w' (⟨_, rfl, hT⟩ | ⟨h1, _⟩)
  · obtain ⟨hk, K', G', hn, _⟩ := hT
    exact ⟨rfl, K', G', hn, hk⟩
  · rw [hp, ha.line] at h1; omega
theorem send21 (h : Nt w p b 2 1 K V G) (ha : All12 V 64) : Calls Try.prog 17 #[.pointer (some ⟨p, 0, none⟩), .int .i64 2, .int .i64 1, .slice none 0 0] w fun e w' => e = .returned (.int .i64 0) ∧ ∃ s K' G', Nt w' p b 2 1 K' (NetM.lay V ⟨(2, 1), s⟩) G' ∧ Keep (fun i => i = p ∨ i = b) w w' := by
  refine (send0 h 2 1 (by decide) (by decide)).mono ?_
  rintro e w' (⟨h1, _⟩ | ⟨_, rfl, s, hT⟩)
  · rw [ha.line21] at h1; omega
  · obtain ⟨hk, K', G', hn, _⟩ := hT
    exact ⟨rfl, _, K', G', hn, hk⟩
theorem line12 {s : Pl} (h : Nt w p b 2 1 K (NetM.lay V ⟨(2, 1), s⟩) G) (hs : Sorted V) (ha : All12 V 64) : Calls Try.prog 23 #[.pointer (some ⟨p, 0, none⟩), .int .i64 1, .int .i64 2] w fun e w' => e = .returned (.int .i64 64) ∧ Below w.heap.size w w' := by
  have := line_any h (1, 2) (by unfold OkP; decide)
  rw [lay_line hs, if_neg (by simp), ha.line] at this
  exact this
theorem clear2 {s : Pl} (h : Nt w p b 2 1 K (NetM.lay V ⟨(2, 1), s⟩) G) (ha : All12 V 64) : Calls Try.prog 24 #[.pointer (some ⟨p, 0, none⟩), .int .i64 2] w fun e w' => e = .returned (.int .i64 64) ∧ ∃ K' G' V', Nt w' p b 2 1 K' V' G' ∧ V'.length = 1 ∧ Keep (fun i => i = p ∨ i = b) w w' := by
  have hg : goneN (NetM.lay V ⟨(2, 1), s⟩) 2 = 64 := by unfold goneN; rw [ha.gone, lay_len, ha.1]; rfl
  refine (clear_any h 2).mono ?_
  rintro e w' ⟨rfl, hk, K', G', hn, _⟩
  exact ⟨by rw [hg], K', G', _, hn, ha.gone _, hk⟩
theorem len1 (h : Nt w p b 2 1 K V G) (hv : V.length = 1) : Calls Try.prog 20 #[.pointer (some ⟨p, 0, none⟩)] w fun e w' => e = .returned (.int .i64 1) ∧ Below w.heap.size w w' := by
  have := len_any h
  rw [hv] at this
  exact this
theorem nothing_nil (w : World) : Calls Try.prog 25 #[.pointer none] w fun e w' => e = .returned (.bool true) ∧ Below w.heap.size w w' := nothing_any (.inl rfl)
theorem nothing_zero (w : World) : Calls Try.prog 25 #[.pointer (some ⟨w.heap.size, 0, none⟩)] (w.alloc (.cells #[.int .i64 0, .map none, .int .i64 0] 55)) fun e w' => e = .returned (.bool true) ∧ Below w.heap.size w w' := by
  have hb : Below w.heap.size w (w.alloc (.cells #[.int .i64 0, .map none, .int .i64 0] 55)) := (Below.refl _ _).alloc (Nat.le_refl _) _
  refine (nothing_any (.inr ⟨_, rfl, Blk.new w _ _⟩)).mono ?_
  rintro e w' ⟨rfl, hw⟩
  exact ⟨rfl, hb.trans (hw.mono hb.size)⟩
end
set_option maxHeartbeats 8000000 in
theorem netNil_any (w : World) : Calls Try.prog 5 #[] w fun e w' => e = .returned (.bool true) ∧ Below w.heap.size w w' := by
  obtain ⟨N1, hN1⟩ : ∃ n : Nat, n = 1048577 := ⟨_, rfl⟩
  obtain ⟨N2, hN2⟩ : ∃ n : Nat, n = 1048576 := ⟨_, rfl⟩
  have hm1 := fun W => nmake N1 1048577 (by omega) (by omega) W
  have hm2 := fun W => nmake N2 1048576 (by omega) (by omega) W
  have HN1 := Lib.hid (show 1048576 < N1 by omega)
  have HN2 := Lib.hid (show N2 ≤ 1048576 by omega)
  clear hN1 hN2
  go_enter Try.func5, Try.ntmps5
  go_upto_region 2 with (go_at_call 9; refine (new_any 2 (by decide) (by decide) _).mono ?_; rintro e w1 ⟨p, b, rfl, hN, hb1, hp, hb⟩)
  have HS1 := Lib.hid (show Calls Try.prog 17 #[.pointer (some ⟨p, 0, none⟩), .int .i64 1, .int .i64 2, .slice (some ⟨w1.heap.size, 0, none⟩) N1 N1] (w1.alloc (.cells (nzR N1) 5)) fun e w' => e = .returned (.int .i64 2) ∧ Below w1.heap.size w1 w' by
    have hbb : Below w1.heap.size w1 (w1.alloc (.cells (nzR N1) 5)) := (Below.refl _ _).alloc (Nat.le_refl _) _
    refine (send_bad (hN.below hbb) (1, 2) _ (nZ N1) (sl_nz (Blk.new w1 _ _)) (fun hm => by have := hm.2; rw [nZ_length] at this; have := HN1.out; omega)).mono ?_
    rintro e w' ⟨rfl, hw⟩
    exact ⟨rfl, hbb.trans (hw.mono hbb.size)⟩)
  have HS2 := Lib.hid (show ∀ X, Below w1.heap.size w1 X → Calls Try.prog 17 #[.pointer (some ⟨p, 0, none⟩), .int .i64 1, .int .i64 2, .slice (some ⟨X.heap.size, 0, none⟩) N2 N2] (X.alloc (.cells (nzR N2) 5)) fun e w' => e = .returned (.int .i64 0) ∧ ∃ s K' G', Nt w' p b 2 0 K' [⟨(1, 2), s⟩] G' ∧ Keep (fun i => i = p ∨ i = b) X w' from fun X hX => by
    have hbb : Below X.heap.size X (X.alloc (.cells (nzR N2) 5)) := (Below.refl _ _).alloc (Nat.le_refl _) _
    refine (send_any ((hN.below hX).below hbb) (1, 2) _ (nZ N2) (sl_nz (Blk.new X _ _)) ⟨by decide, by rw [nZ_length]; exact HN2.out⟩ (by decide)).mono ?_
    rintro e w' (⟨h1, _⟩ | ⟨_, rfl, s, hT⟩)
    · simp [lineOf] at h1
    · obtain ⟨hk, K', G', hn, _⟩ := hT.pre hbb
      exact ⟨rfl, _, K', G', hn, hk⟩)
  go_upto_region 4 with (first | (go_at_call 10; refine (num_any _ _).mono ?_; rintro e w2 ⟨rfl, hwd⟩; obtain rfl := hwd.symm) | (go_at_call 17; with_reducible (show Calls _ _ #[_, _, _, .slice _ N1 N1] _ _); refine HS1.out.mono ?_; rintro e X1 ⟨rfl, hbX1⟩; have HX1 := Lib.hid hbX1) | (go_at_call 17; with_reducible (show Calls _ _ #[_, _, _, .slice _ N2 N2] _ _); refine (HS2.out X1 hbX1).mono ?_; rintro e X2 ⟨rfl, s, K2, G2, hNt2, hk2⟩))
  have hz2 : Below w.heap.size w X2 := Keep.below (hb1.trans (hbX1.mono hb1.size)) hk2 (by have := hb1.size; have := hbX1.size; omega) (fun i hi => by omega)
  have HPB := Lib.hid (And.intro hp hb)
  clear hm1 hm2 HN1 HN2 hN hb1 HS1 HS2 hbX1 HX1 hk2 hp hb hwd
  go_wp2
  go_loopw [3] (fun i wr => ∃ (n : Nat) (V : List (Fl Pl)) (K' : Kl) (G' : Nat → Prop), n ≤ 64 ∧ i = .int .i64 (n : Int) ∧ Nt wr p b 2 0 K' V G' ∧ All12 V n ∧ Below w.heap.size w wr) (fun i _ => 64 - (intOf i).toNat)
  case atStart => exact ⟨1, _, K2, G2, by omega, rfl, hNt2, ⟨rfl, fun f hf => by rw [List.mem_singleton.1 hf]⟩, hz2⟩
  case round =>
    clear hNt2 hz2
    obtain ⟨n, V, K', G', hn, rfl, hNt, ha, hbz⟩ := hrel
    by_cases hlt : n < 64
    · have HS := Lib.hid (show Calls Try.prog 17 #[.pointer (some ⟨p, 0, none⟩), .int .i64 1, .int .i64 2, .slice none 0 0] wr fun e w' => e = .returned (.int .i64 0) ∧ ∃ s K' G', Nt w' p b 2 0 K' (NetM.lay V ⟨(1, 2), s⟩) G' ∧ Keep (fun i => i = p ∨ i = b) wr w' by
        refine (send0 hNt 1 2 (by decide) (by decide)).mono ?_
        rintro e w' (⟨h1, _⟩ | ⟨_, rfl, s, hT⟩)
        · rw [ha.line] at h1; omega
        · obtain ⟨hk, K'', G'', hn, _⟩ := hT
          exact ⟨rfl, _, K'', G'', hn, hk⟩)
      have HA := Lib.hid (And.intro ha hbz)
      clear ha hbz hNt
      have hlt' : decide ((n : Int) < 64) = true := decide_eq_true (by omega)
      go_wp2_with (first | (go_at_call 10; refine (num_any _ _).mono ?_; rintro e w2 ⟨rfl, hwd⟩; obtain rfl := hwd.symm) | (go_at_call 17; refine HS.out.mono ?_; rintro e Y ⟨rfl, s, KY, GY, hNY, hkY⟩))
      go_roundw
      case rel => exact ⟨n + 1, _, KY, GY, by omega, by go_num, hNY, HA.out.1.lay s, Keep.below HA.out.2 hkY HA.out.2.size (fun i hi => by have := HPB.out; omega)⟩
      case measure => simp [intOf]; omega
    · obtain rfl : n = 64 := by omega
      clear hn hlt
      have HA := Lib.hid ha
      have hso := hNt.sorted
      have HSO := Lib.hid hso
      clear hso
      have HPQ := HPB.out
      go_wp2_with (first | (go_at_call 10; refine (num_any _ _).mono ?_; rintro e w2 ⟨rfl, hwd⟩; obtain rfl := hwd.symm) | (go_at_call 17; with_reducible (show Calls _ _ #[_, .int .i64 1, .int .i64 2, _] _ _); refine (full12 hNt HA.out).mono ?_; rintro e Y1 ⟨rfl, K1, G1, hN1, hk1⟩; have hz1 := Keep.below hbz hk1 hbz.size (fun i hi => by omega)) | (go_at_call 21; refine (dbl12 hN1 HA.out).mono ?_; rintro e Y2 ⟨rfl, K2', G2', hN2, hk2⟩; have hz2 := Keep.below hz1 hk2 hz1.size (fun i hi => by omega)) | (go_at_call 17; with_reducible (show Calls _ _ #[_, .int .i64 2, .int .i64 1, _] _ _); refine (send21 hN2 HA.out).mono ?_; rintro e Y3 ⟨rfl, s3, K3, G3, hN3, hk3⟩; have hz3 := Keep.below hz2 hk3 hz2.size (fun i hi => by omega)) | (go_at_call 22; refine (lost_any hN3).mono ?_; rintro e Y4 ⟨rfl, hb4⟩; have hN4 := hN3.below hb4; have hz4 := hz3.trans (hb4.mono hz3.size)) | (go_at_call 23; refine (line12 hN4 HSO.out HA.out).mono ?_; rintro e Y5 ⟨rfl, hb5⟩; have hN5 := hN4.below hb5; have hz5 := hz4.trans (hb5.mono hz4.size)) | (go_at_call 24; refine (clear2 hN5 HA.out).mono ?_; rintro e Y6 ⟨rfl, K6, G6, V6, hN6, hv6, hk6⟩; have hz6 := Keep.below hz5 hk6 hz5.size (fun i hi => by omega)) | (go_at_call 20; refine (len1 hN6 hv6).mono ?_; rintro e Y7 ⟨rfl, hb7⟩; have hz7 := hz6.trans (hb7.mono hz6.size)) | (go_at_call 25; with_reducible (show Calls _ _ #[.pointer none] _ _); refine (nothing_nil Y7).mono ?_; rintro e Y8 ⟨rfl, hb8⟩; have hz8 := hz7.trans (hb8.mono hz7.size)) | (go_at_call 25; with_reducible (show Calls _ _ #[.pointer (some _)] _ _); refine (nothing_zero Y8).mono ?_; rintro e Y9 ⟨rfl, hb9⟩; have hz9 := hz8.trans (hb9.mono hz8.size)) | (go_at_call 11; refine (nknown_any Y9).mono ?_; rintro e Z ⟨rfl, hbZ⟩))
      go_ret
      exact ⟨rfl, hz9.trans (hbZ.mono hz9.size)⟩
end Go.Proofs.Ytjdgegflmbhigaa

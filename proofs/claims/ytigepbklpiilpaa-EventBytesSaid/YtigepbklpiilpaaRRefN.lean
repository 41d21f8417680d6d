/-
  The walks of the document's reader: Number, Blob, Dot, Vector.
-/
import Derived.Test.YtigepbklpiilpaaRRef
import Derived.StillTailTactics
import Derived.IntWalk
namespace Go.Proofs.Ytigepbklpiilpaa
open Go.RowKit
set_option linter.unusedVariables false
set_option linter.unusedSimpArgs false

theorem take_le8 (L : List UInt8) (s : Nat) (h : s ≤ 8) : (L.take s).length ≤ 8 := by rw [List.length_take]; omega

/-- Number, where there are 1 to 8 bytes. -/
theorem refNumber_ok (h bb cB at_ s : Nat) (L : List UInt8) (w : World) (r : RR w h bb cB L at_ false) (h1 : 1 ≤ s) (h8 : s ≤ 8) (hs : at_ + s ≤ L.length) :
    Calls Try.prog 49 #[.pointer (some ⟨h, 0, none⟩), .int .i64 (s : Int)] w fun e w' =>
      e = .returned (.int .u64 (beN ((L.drop at_).take s) : Int)) ∧ RR w' h bb cB L (at_ + s) false ∧ w.grownBy w' (some h) := by
  go_enter Try.func49, Try.ntmps49
  go_wp2_with fail
  refine (refBytes_ok h bb cB at_ s L _ r hs).mono ?_
  rintro e w1 ⟨v, rfl, hsl, r1, hg1⟩
  have Hs := Lib.hid hsl.sl
  obtain ⟨A, c, rfl, _, _⟩ := hsl
  have hl := take_le8 (L.drop at_) s h8
  obtain ⟨p, hp⟩ : ∃ p, (L.drop at_).take s = p := ⟨_, rfl⟩
  rw [hp] at Hs hl ⊢
  have HP := Lib.hid hp
  clear hp
  go_wp2_with fail
  refine (refGet_any _ p _ Hs.out hl).mono ?_
  rintro e w' ⟨rfl, rfl⟩
  go_wp2
  go_ret
  exact ⟨ret_int (by rw [HP.out]), r1, hg1⟩
set_option maxHeartbeats 400000 in
/-- Number, where it can't be. -/
theorem refNumber_bad (h bb cB at_ : Nat) (s : Int) (fl : Bool) (L : List UInt8) (w : World) (r : RR w h bb cB L at_ fl) (hbad : fl = true ∨ s < 1 ∨ 8 < s ∨ (L.length : Int) - (at_ : Int) < s) :
    Calls Try.prog 49 #[.pointer (some ⟨h, 0, none⟩), .int .i64 s] w fun e w' =>
      e = .returned (.int .u64 0) ∧ RR w' h bb cB L at_ true ∧ w.grownBy w' (some h) := by
  have c2 : w.cell? ⟨h, 2, none⟩ = some (.bool fl) := r.blk.cell 2
  have hfr := r.blk.frozen 2
  have g2 : w.grownBy (w.setCell ⟨h, 2, none⟩ (.bool true)) (some h) := grown_setCell w h 2 _
  have hG := fun (w : World) => refGet_any (.slice none 0 0) [] w (Sl.nil none 0) (by simp)
  have HG := Lib.hid hG
  clear hG
  by_cases h1 : s < 1
  · clear hbad
    have r2 := r.fail
    go_enter Try.func49, Try.ntmps49
    go_wp2_with fail
    refine (refBytes_failed h bb cB at_ _ L _ r2).mono ?_
    rintro e w1 ⟨rfl, r1, hg1⟩
    clear c2 hfr
    go_wp2_with fail
    refine (HG.out _).mono ?_
    rintro e w' ⟨rfl, rfl⟩
    go_wp2
    go_ret
    exact ⟨rfl, r1, g2.trans hg1⟩
  · by_cases h8 : 8 < s
    · clear hbad
      have r2 := r.fail
      go_enter Try.func49, Try.ntmps49
      go_wp2_with fail
      refine (refBytes_failed h bb cB at_ _ L _ r2).mono ?_
      rintro e w1 ⟨rfl, r1, hg1⟩
      clear c2 hfr
      go_wp2_with fail
      refine (HG.out _).mono ?_
      rintro e w' ⟨rfl, rfl⟩
      go_wp2
      go_ret
      exact ⟨rfl, r1, g2.trans hg1⟩
    · have hby : Calls Try.prog 62 #[.pointer (some ⟨h, 0, none⟩), .int .i64 s] w fun e w' => e = .returned (.slice none 0 0) ∧ RR w' h bb cB L at_ true ∧ w.grownBy w' (some h) := by
        cases fl with
        | true => exact refBytes_failed h bb cB at_ s L w r
        | false =>
          refine refBytes_short h bb cB at_ s L w r (.inr ?_)
          rcases hbad with hb | hb | hb | hb
          · cases hb
          · omega
          · omega
          · exact hb
      have HB := Lib.hid hby
      clear hby hbad c2 hfr g2
      go_enter Try.func49, Try.ntmps49
      go_wp2_with fail
      refine HB.out.mono ?_
      rintro e w1 ⟨rfl, r1, hg1⟩
      go_wp2_with fail
      refine (HG.out _).mono ?_
      rintro e w' ⟨rfl, rfl⟩
      go_wp2
      go_ret
      exact ⟨rfl, r1, hg1⟩

theorem beN2_lt (L : List UInt8) : beN (L.take 2) < 65536 := by
  have h := beN_lt (L.take 2)
  have h2 : 256 ^ (L.take 2).length ≤ 256 ^ 2 := Nat.pow_le_pow_right (by decide) (by rw [List.length_take]; omega)
  have h3 : (256 : Nat) ^ 2 = 65536 := by decide
  omega

/-- Blob, of one that is there. -/
theorem refBlob_ok (h bb cB at_ n : Nat) (L : List UInt8) (w : World) (r : RR w h bb cB L at_ false) (h2 : at_ + 2 ≤ L.length) (hn : n = beN ((L.drop at_).take 2)) (hs : at_ + 2 + n ≤ L.length) :
    Calls Try.prog 47 #[.pointer (some ⟨h, 0, none⟩)] w fun e w' =>
      ∃ v, e = .returned v ∧ SlB w' bb v ((L.drop (at_ + 2)).take n) ∧ RR w' h bb cB L (at_ + 2 + n) false ∧ w.grownBy w' (some h) := by
  have hlt := beN2_lt (L.drop at_)
  rw [← hn] at hlt
  have HN := Lib.hid hn
  clear hn
  go_enter Try.func47, Try.ntmps47
  go_wp2_with fail
  refine (refNumber_ok h bb cB at_ 2 L _ r (by decide) (by decide) h2).mono ?_
  rintro e w1 ⟨rfl, r1, hg1⟩
  rw [← HN.out]
  go_wp2_with fail
  refine (refBytes_ok h bb cB (at_ + 2) n L _ r1 hs).mono ?_
  rintro e w2 ⟨v, rfl, hsl, r2, hg2⟩
  have Hs := Lib.hid hsl
  clear hsl
  go_wp2
  go_ret
  exact ⟨_, rfl, Hs.out, r2, hg1.trans hg2⟩
/-- Blob, of one that is not. -/
theorem refBlob_few (h bb cB at_ n : Nat) (L : List UInt8) (w : World) (r : RR w h bb cB L at_ false) (h2 : at_ + 2 ≤ L.length) (hn : n = beN ((L.drop at_).take 2)) (hs : L.length < at_ + 2 + n) :
    Calls Try.prog 47 #[.pointer (some ⟨h, 0, none⟩)] w fun e w' =>
      e = .returned (.slice none 0 0) ∧ (∃ a, RR w' h bb cB L a true) ∧ w.grownBy w' (some h) := by
  have hlt := beN2_lt (L.drop at_)
  rw [← hn] at hlt
  have HN := Lib.hid hn
  clear hn
  go_enter Try.func47, Try.ntmps47
  go_wp2_with fail
  refine (refNumber_ok h bb cB at_ 2 L _ r (by decide) (by decide) h2).mono ?_
  rintro e w1 ⟨rfl, r1, hg1⟩
  rw [← HN.out]
  go_wp2_with fail
  refine (refBytes_short h bb cB (at_ + 2) (n : Int) L _ r1 (.inr (by omega))).mono ?_
  rintro e w2 ⟨rfl, r2, hg2⟩
  go_wp2
  go_ret
  exact ⟨rfl, ⟨_, r2⟩, hg1.trans hg2⟩
theorem refBlob_bad (h bb cB at_ : Nat) (fl : Bool) (L : List UInt8) (w : World) (r : RR w h bb cB L at_ fl) (hbad : fl = true ∨ L.length < at_ + 2) :
    Calls Try.prog 47 #[.pointer (some ⟨h, 0, none⟩)] w fun e w' =>
      e = .returned (.slice none 0 0) ∧ (∃ a, RR w' h bb cB L a true) ∧ w.grownBy w' (some h) := by
  have HN := Lib.hid (refNumber_bad h bb cB at_ 2 fl L w r (hbad.elim .inl (fun hb => .inr (.inr (.inr (by omega))))))
  clear hbad
  go_enter Try.func47, Try.ntmps47
  go_wp2_with fail
  refine HN.out.mono ?_
  rintro e w1 ⟨rfl, r1, hg1⟩
  go_wp2_with fail
  refine (refBytes_failed h bb cB at_ 0 L _ r1).mono ?_
  rintro e w2 ⟨rfl, r2, hg2⟩
  go_wp2
  go_ret
  exact ⟨rfl, ⟨_, r2⟩, hg1.trans hg2⟩

theorem info_dot : (Try.prog.info? 24).map (·.size) = some 2 := by kernel_rfl
set_option maxHeartbeats 1000000 in
/-- Dot, of nine bytes that are there. -/
theorem refDotR_ok (h bb cB at_ : Nat) (c0 : UInt8) (q : List UInt8) (L : List UInt8) (w : World) (r : RR w h bb cB L at_ false) (h9 : at_ + 9 ≤ L.length) (hq : (L.drop at_).take 9 = c0 :: q) :
    Calls Try.prog 46 #[.pointer (some ⟨h, 0, none⟩)] w fun e w' =>
      e = .returned (.agg #[.int .i64 (c0.toNat : Int), .int .u64 (beN q : Int)]) ∧ RR w' h bb cB L (at_ + 9) false ∧ w.grownBy w' (some h) := by
  have hql : q.length = 8 := by
    have := congrArg List.length hq
    rw [List.length_take, List.length_drop] at this
    simp at this
    omega
  have hlt := r.blk.lt
  have hB0 := Blk.new w 24 #[.int .i64 0, .int .u64 0]
  have r0 := r.below ((Below.refl _ _).alloc (Nat.le_refl _) (.cells #[.int .i64 0, .int .u64 0] 24))
  go_enter Try.func46, Try.ntmps46
  go_wp2_with fail
  refine (refBytes_ok h bb cB at_ 9 L _ r0 h9).mono ?_
  rintro e w1 ⟨v, rfl, hsl, r1, hg1⟩
  rw [hq] at hsl
  have hB1 : Blk w1 w.heap.size 24 #[.int .i64 0, .int .u64 0] := hB0.grown hg1 (by simp; omega)
  have hgw := grown_of_alloc hg1
  clear hB0 r0 hg1 r
  obtain ⟨A, c, rfl, hc, ha⟩ := hsl
  obtain ⟨o, rfl, hx⟩ := ha (by simp)
  have hlen9 : (c0 :: q).length = 9 := by simp [hql]
  rw [hlen9] at hc ⊢
  have hcell : w1.cell? ⟨bb, o, none⟩ = some (.int .u8 (c0.toNat : Int)) := by have := hx 0 (by simp); simpa using this
  have hsq : Sl w1.drew (.slice (some ⟨bb, o + 1, none⟩) 8 (c - 1)) q := by
    refine ⟨_, c - 1, by rw [hql], by rw [hql]; omega, fun _ => ⟨bb, o + 1, rfl, fun j hj => ?_⟩⟩
    have := hx (j + 1) (by simpa using hj)
    rw [show o + 1 + j = o + (j + 1) by omega]
    exact this
  have hcell1 : w1.drew.cell? ⟨bb, o, none⟩ = some (.int .u8 (c0.toNat : Int)) := hcell
  have hB2 := hB1.drew
  have r2 := r1.drew
  have g2 := grown_drew hgw
  have HQ := Lib.hid hql
  clear hx ha hcell hB1 r1 hgw hq hql hlen9
  have hc1 : ¬ c = 1 := by omega
  have hgt : Calls Try.prog 63 #[.slice (some ⟨bb, o + 1, none⟩) 8 (c - 1)] w1.drew fun e w'' => e = .returned (.int .u64 (beN q : Int)) ∧ w'' = w1.drew :=
    (refGet_any _ q _ hsq (by rw [HQ.out]; decide)).mono fun e w'' ⟨he, hw⟩ => ⟨he, hw.symm⟩
  go_wp2
  refine wp_region_still_tail 8 (by kernel_rfl) (by kernel_rfl) ?_
  simp only [List.take_succ_cons, List.take_zero, List.drop_succ_cons, List.drop_zero]
  change wpStill _ _ w1.drew (fun a' => wpList _ _ _ _ a' w1.drew) _ _
  generalize w1.drew = W at hcell1 hB2 r2 g2 hgt hsq ⊢
  have Hgt := Lib.hid hgt
  clear hgt hsq
  still_step
  still_step
  still_step
  still_step
  still_step
  still_step
  still_call Hgt.out
  still_step
  refine wpStill_nil ?_
  have z0 : W.cell? ⟨w.heap.size, 0, none⟩ = some (.int .i64 0) := hB2.cell 0
  have z1 : W.cell? ⟨w.heap.size, 1, none⟩ = some (.int .u64 0) := hB2.cell 1
  have f0 := hB2.frozen 0
  have f1 := hB2.frozen 1
  clear hcell1
  go_wp2
  have hc0 : c0.toNat < 256 := c0.toNat_lt
  rw [show wrap64 (c0.toNat : Int) = (c0.toNat : Int) from IntWalk.wrap64_in _ (by omega)]
  have hE : Blk ((W.setCell ⟨w.heap.size, 0, none⟩ (.int .i64 (c0.toNat : Int))).setCell ⟨w.heap.size, 1, none⟩ (.int .u64 (beN q : Int))) w.heap.size 24 #[.int .i64 (c0.toNat : Int), .int .u64 (beN q : Int)] := (hB2.set_ 0 _).set_ 1 _
  have hgE : W.grownBy ((W.setCell ⟨w.heap.size, 0, none⟩ (.int .i64 (c0.toNat : Int))).setCell ⟨w.heap.size, 1, none⟩ (.int .u64 (beN q : Int))) (some w.heap.size) := (grown_setCell W _ 0 _).trans (grown_setCell _ _ 1 _)
  exact bodyPost_ret (v := .agg #[.int .i64 (c0.toNat : Int), .int .u64 (beN q : Int)]) (results_cell_row rfl _ _ w.heap.size 24 _ (0, 0) _ rfl hE Try.underlying24 rfl info_dot) rfl ⟨rfl, r2.grown hB2 (by decide) hgE, grown_via g2 hgE (Nat.le_refl _)⟩

set_option maxHeartbeats 1000000 in
/-- Dot, where it can't be. -/
theorem refDotR_bad (h bb cB at_ : Nat) (fl : Bool) (L : List UInt8) (w : World) (r : RR w h bb cB L at_ fl) (hbad : fl = true ∨ L.length < at_ + 9) :
    Calls Try.prog 46 #[.pointer (some ⟨h, 0, none⟩)] w fun e w' =>
      e = .returned (.agg #[.int .i64 0, .int .u64 0]) ∧ RR w' h bb cB L at_ true ∧ w.grownBy w' (some h) := by
  have hlt := r.blk.lt
  have hB0 := Blk.new w 24 #[.int .i64 0, .int .u64 0]
  have r0 := r.below ((Below.refl _ _).alloc (Nat.le_refl _) (.cells #[.int .i64 0, .int .u64 0] 24))
  have hby : Calls Try.prog 62 #[.pointer (some ⟨h, 0, none⟩), .int .i64 9] (w.alloc (.cells #[.int .i64 0, .int .u64 0] 24)) fun e w' => e = .returned (.slice none 0 0) ∧ RR w' h bb cB L at_ true ∧ (w.alloc (.cells #[.int .i64 0, .int .u64 0] 24)).grownBy w' (some h) := by
    cases fl with
    | true => exact refBytes_failed h bb cB at_ 9 L _ r0
    | false => exact refBytes_short h bb cB at_ 9 L _ r0 (.inr (by rcases hbad with hb | hb; cases hb; omega))
  have HB := Lib.hid hby
  clear hby hbad r0
  go_enter Try.func46, Try.ntmps46
  go_wp2_with fail
  refine HB.out.mono ?_
  rintro e w1 ⟨rfl, r1, hg1⟩
  have hB1 : Blk w1 w.heap.size 24 #[.int .i64 0, .int .u64 0] := hB0.grown hg1 (by simp; omega)
  have hgw := grown_of_alloc hg1
  clear hB0 hg1 r HB
  have z0 : w1.cell? ⟨w.heap.size, 0, none⟩ = some (.int .i64 0) := hB1.cell 0
  have z1 : w1.cell? ⟨w.heap.size, 1, none⟩ = some (.int .u64 0) := hB1.cell 1
  have f0 := hB1.frozen 0
  have f1 := hB1.frozen 1
  go_wp2
  have hE : Blk ((w1.setCell ⟨w.heap.size, 0, none⟩ (.int .i64 0)).setCell ⟨w.heap.size, 1, none⟩ (.int .u64 0)) w.heap.size 24 #[.int .i64 0, .int .u64 0] := (hB1.set_ 0 _).set_ 1 _
  have hgE : w1.grownBy ((w1.setCell ⟨w.heap.size, 0, none⟩ (.int .i64 0)).setCell ⟨w.heap.size, 1, none⟩ (.int .u64 0)) (some w.heap.size) := (grown_setCell w1 _ 0 _).trans (grown_setCell _ _ 1 _)
  exact bodyPost_ret (v := .agg #[.int .i64 0, .int .u64 0]) (results_cell_row rfl _ _ w.heap.size 24 _ (0, 0) _ rfl hE Try.underlying24 rfl info_dot) rfl ⟨rfl, r1.grown hB1 (by decide) hgE, grown_via hgw hgE (Nat.le_refl _)⟩
end Go.Proofs.Ytigepbklpiilpaa

/-
  The walk of the document's reader: Vector.
-/
import Derived.Test.YtigepbklpiilpaaRRefN
namespace Go.Proofs.Ytigepbklpiilpaa
open Go.RowKit
set_option linter.unusedVariables false
set_option linter.unusedSimpArgs false

set_option maxHeartbeats 1000000 in
/-- Vector, of 128 bytes that are there. -/
theorem refVecR_ok (h bb cB at_ : Nat) (L : List UInt8) (w : World) (r : RR w h bb cB L at_ false) (h128 : at_ + 128 ≤ L.length) :
    Calls Try.prog 48 #[.pointer (some ⟨h, 0, none⟩)] w fun e w' =>
      ∃ C, e = .returned (.agg C) ∧ Vec C (vecN ((L.drop at_).take 128)) ∧ RR w' h bb cB L (at_ + 128) false ∧ w.grownBy w' (some h) := by
  have hlt := r.blk.lt
  have r0 := (r.below ((Below.refl _ _).alloc (Nat.le_refl _) (.cells zeros.toArray 27))).below ((Below.refl _ _).alloc (Nat.le_refl _) (.cells zeros.toArray 27))
  have hB0 := (Blk.new w 27 zeros.toArray).alloc (.cells zeros.toArray 27)
  have hB1 := Blk.new (w.alloc (.cells zeros.toArray 27)) 27 zeros.toArray
  rw [show (w.alloc (.cells zeros.toArray 27)).heap.size = w.heap.size + 1 from by simp] at hB1
  go_enter Try.func48, Try.ntmps48
  go_wp2_with fail
  change Calls _ _ _ ((w.alloc (.cells zeros.toArray 27)).alloc (.cells zeros.toArray 27)) _
  refine (refBytes_ok h bb cB at_ 128 L _ r0 h128).mono ?_
  rintro e w1 ⟨v, rfl, hsl, r1, hg1⟩
  have hB2 : Blk w1 w.heap.size 27 zeros.toArray := hB0.grown hg1 (by simp; omega)
  have hB3 : Blk w1 (w.heap.size + 1) 27 zeros.toArray := hB1.grown hg1 (by simp; omega)
  have hgw := grown_of_alloc (grown_of_alloc hg1)
  clear hB0 hB1 r0 hg1 r
  have hpl : ((L.drop at_).take 128).length = 128 := by rw [List.length_take, List.length_drop]; omega
  obtain ⟨p, hp⟩ : ∃ p, (L.drop at_).take 128 = p := ⟨_, rfl⟩
  rw [hp] at hsl hpl
  have HP := Lib.hid hp
  clear hp
  obtain ⟨A, c, rfl, hc, ha⟩ := hsl
  obtain ⟨o, rfl, hx⟩ := ha (by omega)
  rw [hpl] at hc ⊢
  have HX := Lib.hid hx
  have HPL := Lib.hid hpl
  clear ha hx hpl
  have hneB : bb ≠ w.heap.size + 1 := r1.ne_bb hB3
  go_wp2
  go_loopw [5] (fun z wr => ∃ (k : Nat) (C : Array Value), k ≤ 16 ∧ z = .int .i64 (k : Int) ∧ Blk wr (w.heap.size + 1) 27 C ∧ VecTo p k C ∧ w1.grownBy wr (some (w.heap.size + 1))) (fun z _ => 16 - (intOf z).toNat)
  case atStart => exact ⟨0, _, Nat.zero_le _, rfl, hB3, zeros_to p, grown_refl _ _⟩
  case round =>
    obtain ⟨k, C, hk, rfl, hB, hC, hgr⟩ := hrel
    by_cases hlk : k < 16
    · have hsz := hC.1
      have hcell : wr.cell? ⟨w.heap.size + 1, k, none⟩ = some C[k] := by rw [hB.cell]; exact Array.getElem?_eq_getElem (by omega)
      have hfr := hB.frozen k
      have hs2 : Sl wr (.slice (some ⟨bb, o + 8 * k, none⟩) 8 (c - 8 * k)) ((p.drop (8 * k)).take 8) := by
        have hl8 : ((p.drop (8 * k)).take 8).length = 8 := by rw [List.length_take, List.length_drop, HPL.out]; omega
        refine ⟨_, c - 8 * k, by rw [hl8], by rw [hl8]; omega, fun _ => ⟨bb, o + 8 * k, rfl, fun j hj => ?_⟩⟩
        rw [hl8] at hj
        have h1 := HX.out (8 * k + j) (by rw [HPL.out]; omega)
        rw [List.getElem_take, List.getElem_drop, Nat.add_assoc]
        exact hgr.cell h1 (fun e => hneB (by injection e))
      have hcne : ¬ c = 8 * k := by omega
      have hl8 : ((p.drop (8 * k)).take 8).length ≤ 8 := by rw [List.length_take]; omega
      go_wp2_with fail
      refine (refGet_any _ ((p.drop (8 * k)).take 8) _ hs2 hl8).mono ?_
      rintro e w' ⟨rfl, rfl⟩
      go_wp2
      go_roundw
      case rel => exact ⟨k + 1, _, by omega, by go_num, hB.set_ k _, hC.step hlk, hgr.trans (grown_setCell _ _ _ _)⟩
      case measure => simp [intOf]; omega
    · obtain rfl : k = 16 := by omega
      have hCd := hC.done
      have hB2' : Blk wr w.heap.size 27 zeros.toArray := hB2.grown hgr (by simp)
      have hth : wr.there w.heap.size 0 C.size := by rw [hCd.size]; exact hB2'.there
      have r2 := r1.grown hB3 (by decide) hgr
      have hgw2 := grown_via hgw hgr (by omega)
      clear HX HPL hneB r1 hgw hB2 hB3 hgr hC
      go_wp2_with (first | (refine wpList_load_row rfl 27 _ rfl (w.heap.size + 1) rfl 27 C (0, 0) _ hB Try.underlying27 rfl hCd.info ?_) | (refine wpList_store_mid rfl 27 _ _ rfl w.heap.size 0 C rfl rfl hth hCd.info hCd.one ?_))
      have hE : Blk (wr.setCells w.heap.size 0 C.toList) w.heap.size 27 C := hB2'.setRow (by rw [hCd.size]; rfl)
      have hgE := grown_setCells w.heap.size C.toList 0 wr
      exact bodyPost_ret (v := .agg C) (results_cell_row rfl _ _ w.heap.size 27 C (0, 0) _ rfl hE Try.underlying27 rfl hCd.info) rfl ⟨C, rfl, by rw [HP.out]; exact hCd, r2.grown hB2' (by decide) hgE, grown_via hgw2 hgE (Nat.le_refl _)⟩

set_option maxHeartbeats 1000000 in
/-- Vector, where it can't be. -/
theorem refVecR_bad (h bb cB at_ : Nat) (fl : Bool) (L : List UInt8) (w : World) (r : RR w h bb cB L at_ fl) (hbad : fl = true ∨ L.length < at_ + 128) :
    Calls Try.prog 48 #[.pointer (some ⟨h, 0, none⟩)] w fun e w' =>
      e = .returned (.agg zeros.toArray) ∧ RR w' h bb cB L at_ true ∧ w.grownBy w' (some h) := by
  have hlt := r.blk.lt
  have r0 := (r.below ((Below.refl _ _).alloc (Nat.le_refl _) (.cells zeros.toArray 27))).below ((Below.refl _ _).alloc (Nat.le_refl _) (.cells zeros.toArray 27))
  have hB0 := (Blk.new w 27 zeros.toArray).alloc (.cells zeros.toArray 27)
  have hB1 := Blk.new (w.alloc (.cells zeros.toArray 27)) 27 zeros.toArray
  rw [show (w.alloc (.cells zeros.toArray 27)).heap.size = w.heap.size + 1 from by simp] at hB1
  have hby : Calls Try.prog 62 #[.pointer (some ⟨h, 0, none⟩), .int .i64 128] ((w.alloc (.cells zeros.toArray 27)).alloc (.cells zeros.toArray 27)) fun e w' => e = .returned (.slice none 0 0) ∧ RR w' h bb cB L at_ true ∧ ((w.alloc (.cells zeros.toArray 27)).alloc (.cells zeros.toArray 27)).grownBy w' (some h) := by
    cases fl with
    | true => exact refBytes_failed h bb cB at_ 128 L _ r0
    | false => exact refBytes_short h bb cB at_ 128 L _ r0 (.inr (by rcases hbad with hb | hb; cases hb; omega))
  have HB := Lib.hid hby
  clear hby hbad r0
  go_enter Try.func48, Try.ntmps48
  go_wp2_with fail
  change Calls _ _ _ ((w.alloc (.cells zeros.toArray 27)).alloc (.cells zeros.toArray 27)) _
  refine HB.out.mono ?_
  rintro e w1 ⟨rfl, r1, hg1⟩
  have hB2 : Blk w1 w.heap.size 27 zeros.toArray := hB0.grown hg1 (by simp; omega)
  have hB3 : Blk w1 (w.heap.size + 1) 27 zeros.toArray := hB1.grown hg1 (by simp; omega)
  have hgw := grown_of_alloc (grown_of_alloc hg1)
  clear hB0 hB1 hg1 r HB
  go_wp2
  go_loop [5] (fun z => z = .int .i64 0) (fun _ => 0)
  case atStart => rfl
  case round =>
    subst hrel
    obtain ⟨C, eC⟩ : ∃ C, C = zeros.toArray := ⟨_, rfl⟩
    have hC : Vec C (List.replicate 16 0) := by rw [eC]; exact zeros_vec
    rw [← eC] at hB3
    have hth : w1.there w.heap.size 0 C.size := by rw [hC.size]; exact hB2.there
    have EC := Lib.hid eC
    clear eC
    go_wp2_with (first | (refine wpList_load_row rfl 27 _ rfl (w.heap.size + 1) rfl 27 C (0, 0) _ hB3 Try.underlying27 rfl hC.info ?_) | (refine wpList_store_mid rfl 27 _ _ rfl w.heap.size 0 C rfl rfl hth hC.info hC.one ?_))
    have hE : Blk (w1.setCells w.heap.size 0 C.toList) w.heap.size 27 C := hB2.setRow (by rw [hC.size]; rfl)
    have hgE := grown_setCells w.heap.size C.toList 0 w1
    exact bodyPost_ret (v := .agg C) (results_cell_row rfl _ _ w.heap.size 27 C (0, 0) _ rfl hE Try.underlying27 rfl hC.info) rfl ⟨by rw [EC.out], r1.grown hB2 (by decide) hgE, grown_via hgw hgE (Nat.le_refl _)⟩
end Go.Proofs.Ytigepbklpiilpaa

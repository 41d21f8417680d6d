/-
  The walk of the document's start with all constants.
-/
import Derived.Test.YthlopecllhdmhaaDoorShaU32
namespace Go.Proofs.YthlopecllhdmhaaDoor
open Go.RowKit
set_option linter.unusedVariables false
set_option linter.unusedSimpArgs false

/-- The primes below n. -/
def pl : Nat → List Nat
  | 0 => []
  | 1 => []
  | 2 => []
  | n + 3 => pl (n + 2) ++ if isP (n + 2) then [n + 2] else []
theorem pl_succ (n : Nat) (h : 2 ≤ n) : pl (n + 1) = pl n ++ if isP n then [n] else [] := by
  obtain ⟨m, rfl⟩ : ∃ m, n = m + 2 := ⟨n - 2, by omega⟩
  rfl
theorem pl_few : ∀ n, n < 312 → (pl n).length < 64 := by decide +kernel
theorem pl_all : (pl 312).length = 64 := by decide +kernel
/-- What the first eight of a list are, and noughts. -/
def part8 (l : List Nat) : List Nat := l.take 8 ++ List.replicate (8 - l.length) 0
theorem part8_length (l : List Nat) : (part8 l).length = 8 := by simp [part8]; omega
theorem part8_more (l : List Nat) (x : Nat) (h : 8 ≤ l.length) : part8 (l ++ [x]) = part8 l := by
  unfold part8
  rw [List.take_append_of_le_length h, List.length_append]
  congr 2
  simp; omega
theorem part8_set (l : List Nat) (x : Nat) (h : l.length < 8) : (part8 l).set l.length x = part8 (l ++ [x]) := by
  unfold part8
  rw [List.take_of_length_le (by omega), List.take_of_length_le (by simp; omega), List.set_append_right _ _ (Nat.le_refl _), Nat.sub_self, List.length_append, show 8 - l.length = (8 - (l.length + 1)) + 1 by omega, List.replicate_succ, List.set_cons_zero, List.append_assoc]
  simp
def ks (n : Nat) : List Nat := (pl n).map root3
def hsL (n : Nat) : List Nat := part8 ((pl n).map root2)
theorem ks_all : ks 312 = shaK := by decide +kernel
theorem hs_all : hsL 312 = shaS.list := by decide +kernel
theorem ks_yes (n : Nat) (h : 2 ≤ n) (hp : isP n = true) : ks (n + 1) = ks n ++ [root3 n] := by unfold ks; rw [pl_succ n h, hp]; simp
theorem ks_no (n : Nat) (h : 2 ≤ n) (hp : isP n = false) : ks (n + 1) = ks n := by unfold ks; rw [pl_succ n h, hp]; simp
theorem hs_no (n : Nat) (h : 2 ≤ n) (hp : isP n = false) : hsL (n + 1) = hsL n := by unfold hsL; rw [pl_succ n h, hp]; simp
theorem hs_more (n : Nat) (h : 2 ≤ n) (hp : isP n = true) (hl : 8 ≤ (ks n).length) : hsL (n + 1) = hsL n := by
  unfold hsL; rw [pl_succ n h, hp]
  rw [if_pos rfl, List.map_append]
  exact part8_more _ _ (by simpa [ks] using hl)
theorem hs_set (n : Nat) (h : 2 ≤ n) (hp : isP n = true) (hl : (ks n).length < 8) : (hsL n).set (ks n).length (root2 n) = hsL (n + 1) := by
  unfold hsL; rw [pl_succ n h, hp]
  rw [if_pos rfl, List.map_append]
  have e : (ks n).length = ((pl n).map root2).length := by simp [ks]
  rw [e]
  exact part8_set _ _ (by rw [← e]; exact hl)
theorem ks_len (n : Nat) : (ks n).length = (pl n).length := by simp [ks]
/-- A slice's length, in words. -/
theorem OwnU.n_eq {w : World} {base : Nat} {A : Option Addr} {n c : Nat} {l : List Nat} (h : OwnU w base (.slice A n c) l) : n = l.length := h.slu.len

set_option maxHeartbeats 1600000 in
theorem begun_any (w : World) :
    Calls Tryd.prog 44 #[] w fun e w' => ∃ v, e = .returned (.tuple #[.agg shaS.row, v]) ∧ OwnU w' w.heap.size v shaK ∧ Below w.heap.size w w' := by
  obtain ⟨i0, hi, hz0, hz1, hz2⟩ := info_parts info_u32'
  have hB0 := (Blk.new w 73 (rowU (List.replicate 8 0))).alloc (.cells (rowU (List.replicate 8 0)) 73)
  have hB1 := Blk.new (w.alloc (.cells (rowU (List.replicate 8 0)) 73)) 73 (rowU (List.replicate 8 0))
  rw [show (w.alloc (.cells (rowU (List.replicate 8 0)) 73)).heap.size = w.heap.size + 1 by simp] at hB1
  have hbw : Below w.heap.size w ((w.alloc (.cells (rowU (List.replicate 8 0)) 73)).alloc (.cells (rowU (List.replicate 8 0)) 73)) := ((Below.refl _ _).alloc (Nat.le_refl _) _).alloc (by simp) _
  have hsz : w.heap.size + 2 ≤ ((w.alloc (.cells (rowU (List.replicate 8 0)) 73)).alloc (.cells (rowU (List.replicate 8 0)) 73)).heap.size := by simp
  have hZ : (rowU (List.replicate 8 0)).size = 8 := rfl
  go_enter Tryd.func44, Tryd.ntmps44
  go_upto_region 2 with (fail)
  change Code.wp _ _ _ _ ((w.alloc (.cells (rowU (List.replicate 8 0)) 73)).alloc (.cells (rowU (List.replicate 8 0)) 73))
  generalize (w.alloc (.cells (rowU (List.replicate 8 0)) 73)).alloc (.cells (rowU (List.replicate 8 0)) 73) = W0 at hB0 hB1 hbw hsz ⊢
  rw [show rowU (List.replicate 8 0) = rowU (hsL 2) from rfl] at hB1
  generalize rowU (List.replicate 8 0) = Z at hB0 hZ
  go_wp2
  go_loopw [3, 4] (fun x y wr => ∃ n : Nat, 2 ≤ n ∧ n ≤ 312 ∧ y = .int .u64 (n : Int) ∧ OwnU wr (w.heap.size + 2) x (ks n) ∧ Blk wr w.heap.size 73 Z ∧ Blk wr (w.heap.size + 1) 73 (rowU (hsL n)) ∧ Below w.heap.size w wr ∧ w.heap.size + 2 ≤ wr.heap.size) (fun _ y _ => 400 - (intOf y).toNat)
  case atStart => exact ⟨2, Nat.le_refl _, by decide, rfl, OwnU.nil, hB0, hB1, hbw, hsz⟩
  case round =>
    clear hB0 hB1 hbw hsz
    obtain ⟨n, hn2, hn, rfl, ho, hB0, hB1, hb, hsz⟩ := hrel
    obtain ⟨A, c3, c4, rfl⟩ := ho.shape
    have hnl := ho.n_eq
    by_cases hlt : n < 312
    · have hlen : c3 < 64 := by rw [hnl, ks_len]; exact pl_few n hlt
      have HL3 := Lib.hid hnl
      clear hnl
      go_wp2
      have hm3 : n ≤ 311 := by omega
      go_loop [5, 6] (fun y x => ∃ (k : Nat) (b : Bool), 2 ≤ k ∧ k ≤ 21 ∧ x = .int .u64 (k : Int) ∧ y = .bool b ∧ lp n k b (22 - k) = isP n) (fun _ x => 40 - (intOf x).toNat)
      case atStart => exact ⟨2, true, Nat.le_refl _, by decide, rfl, rfl, rfl⟩
      case round =>
        obtain ⟨k, b, hk2, hk, rfl, rfl, hl⟩ := hrel
        have hkk := sq_le k hk
        have eqk := mm_mul k k
        by_cases hle : k * k ≤ n
        · have hk20 : k ≤ 20 := by
            rcases Nat.lt_or_ge 20 k with h | h
            · have := sq_gt k h; omega
            · exact h
          obtain ⟨f, hf⟩ : ∃ f, 22 - k = f + 1 := ⟨21 - k, by omega⟩
          rw [hf, lp_go n k b f hle] at hl
          have HL := Lib.hid (show lp n (k + 1) (b && n % k != 0) (22 - (k + 1)) = isP n by rw [show 22 - (k + 1) = f by omega]; exact hl)
          clear hl hf
          have hle' : (k : Int) * (k : Int) ≤ (n : Int) := by rw [eqk]; omega
          have hq0 : (0 : Int) ≤ (k : Int) * (k : Int) := by rw [eqk]; omega
          have hq1 : (k : Int) * (k : Int) ≤ 441 := by rw [eqk]; omega
          clear hle eqk hkk
          cases b
          · go_wp2
            go_round
            case rel => exact ⟨k + 1, false, by omega, by omega, by go_num, rfl, by simpa using HL.out⟩
            case measure => simp [intOf]; omega
          · by_cases hr : n % k = 0
            · have hr' : (((n : Int) % (k : Int)) != 0) = false := by simp; omega
              have HRR := Lib.hid hr
              clear hr
              go_wp2
              go_round
              case rel => exact ⟨k + 1, false, by omega, by omega, by go_num, rfl, by simpa [HRR.out] using HL.out⟩
              case measure => simp [intOf]; omega
            · have hr' : (((n : Int) % (k : Int)) != 0) = true := by simp; omega
              have HRR := Lib.hid hr
              clear hr
              go_wp2
              go_round
              case rel => exact ⟨k + 1, true, by omega, by omega, by go_num, rfl, by have h := HL.out; rw [show (n % k != 0) = true by simp [HRR.out]] at h; simpa using h⟩
              case measure => simp [intOf]; omega
        · rw [lp_stop n k b _ hle] at hl
          have hle' : ¬ (k : Int) * (k : Int) ≤ (n : Int) := by rw [eqk]; omega
          have hq0 : (0 : Int) ≤ (k : Int) * (k : Int) := by rw [eqk]; omega
          have hq1 : (k : Int) * (k : Int) ≤ 441 := by rw [eqk]; omega
          clear hle eqk hkk
          have hn32 : n < 4294967296 := by omega
          cases b
          · have HK := Lib.hid (ks_no n hn2 hl.symm)
            have HH := Lib.hid (hs_no n hn2 hl.symm)
            clear hl
            go_wp2
            go_roundw
            case rel => exact ⟨n + 1, by omega, by omega, by go_num, by rw [HK.out]; exact ho, hB0, by rw [HH.out]; exact hB1, hb, hsz⟩
            case measure => simp [intOf]; omega
          · have HK := Lib.hid (ks_yes n hn2 hl.symm)
            by_cases h8 : c3 < 8
            · have HH := Lib.hid (show (hsL n).set c3 (root2 n) = hsL (n + 1) by rw [HL3.out]; exact hs_set n hn2 hl.symm (by rw [← HL3.out]; exact h8))
              clear hl
              have hcx : wr.cell? ⟨w.heap.size + 1, c3, none⟩ = some (.int .u32 ((hsL n).getD c3 0 : Int)) := by rw [hB1.cell, rowU_getD (by rw [show (hsL n).length = 8 from part8_length _]; exact h8)]
              have hfr := hB1.frozen c3
              generalize (hsL n).getD c3 0 = old at hcx
              have HS := Lib.hid (rowU_set (hsL n) c3 (root2 n))
              go_wp2_with fail
              refine (root2_any n hn32 wr).mono ?_
              rintro e w' ⟨rfl, rfl⟩
              generalize root2 n = r2 at HH HS ⊢
              go_upto_if 37 with (fail)
              replace ho := ho.far (p := ⟨w.heap.size + 1, c3, none⟩) (by simp) (.int .u32 (r2 : Int))
              replace hB0 := hB0.far (p := ⟨w.heap.size + 1, c3, none⟩) (by simp) (.int .u32 (r2 : Int))
              replace hB1 := hB1.set_ c3 (.int .u32 (r2 : Int))
              rw [HS.out, HH.out] at hB1
              replace hb := hb.setCell (p := ⟨w.heap.size + 1, c3, none⟩) (by simp) (.int .u32 (r2 : Int))
              have hsz2 : w.heap.size + 2 ≤ (wr.setCell ⟨w.heap.size + 1, c3, none⟩ (.int .u32 (r2 : Int))).heap.size := by simpa using hsz
              clear hcx hfr hsz
              generalize wr.setCell ⟨w.heap.size + 1, c3, none⟩ (.int .u32 (r2 : Int)) = wq at ho hB0 hB1 hb hsz2 ⊢
              have hsz := hsz2
              clear hsz2
              go_wp2_with fail
              refine (root3_any n hn32 wq).mono ?_
              rintro e w' ⟨rfl, rfl⟩
              have HK3 := Lib.hid (show rowU [root3 n] = #[.int .u32 (root3 n : Int)] from rfl)
              generalize root3 n = r3 at HK HK3 ⊢
              have oA := ho.alloc (.cells #[.int .u32 (r3 : Int)] 72)
              have cA : (wq.alloc (.cells #[.int .u32 (r3 : Int)] 72)).cell? ⟨wq.heap.size, 0, none⟩ = some (.int .u32 (r3 : Int)) := (Blk.new wq 72 #[.int .u32 (r3 : Int)]).cell 0
              have b0A := hB0.alloc (.cells #[.int .u32 (r3 : Int)] 72)
              have b1A := hB1.alloc (.cells #[.int .u32 (r3 : Int)] 72)
              have bbA := hb.alloc hb.size (.cells #[.int .u32 (r3 : Int)] 72)
              have szA : w.heap.size + 2 ≤ (wq.alloc (.cells #[.int .u32 (r3 : Int)] 72)).heap.size := by simp; omega
              have lA : (ks n).length ≤ 1000000 := by have := HL3.out; omega
              have HOA := Lib.hid (show (w.heap.size + 2) + 0 = w.heap.size + 2 from rfl)
              go_wp2_with (refine wpList_append_u32 _ rfl _ _ 74 rfl (w.heap.size + 2) i0 Tryd.underlying74 hi hz0 hz1 hz2 _ (ks n) rfl oA wq.heap.size r3 rfl cA lA szA ?_; intro v' wz ho2 hgr)
              have hB0' := b0A.appended oA hgr (by omega)
              have hB1' := b1A.appended oA hgr (by omega)
              have hb' := below_append bbA oA hgr (by omega) (by omega)
              have hsz' : w.heap.size + 2 ≤ wz.heap.size := Nat.le_trans szA hgr.size
              have HO2 := Lib.hid ho2
              clear ho2 hgr oA cA b0A b1A bbA szA lA
              go_wp2
              go_roundw
              case rel => exact ⟨n + 1, by omega, by omega, by go_num, by rw [HK.out]; exact HO2.out, hB0', hB1', hb', hsz'⟩
              case measure => simp [intOf]; omega
            · have HH := Lib.hid (hs_more n hn2 hl.symm (by rw [← HL3.out]; omega))
              clear hl
              have h8' : 8 ≤ c3 := by omega
              go_wp2_with fail
              refine (root3_any n hn32 wr).mono ?_
              rintro e w' ⟨rfl, rfl⟩
              have HK3 := Lib.hid (show rowU [root3 n] = #[.int .u32 (root3 n : Int)] from rfl)
              generalize root3 n = r3 at HK HK3 ⊢
              have oA := ho.alloc (.cells #[.int .u32 (r3 : Int)] 72)
              have cA : (wr.alloc (.cells #[.int .u32 (r3 : Int)] 72)).cell? ⟨wr.heap.size, 0, none⟩ = some (.int .u32 (r3 : Int)) := (Blk.new wr 72 #[.int .u32 (r3 : Int)]).cell 0
              have b0A := hB0.alloc (.cells #[.int .u32 (r3 : Int)] 72)
              have b1A := hB1.alloc (.cells #[.int .u32 (r3 : Int)] 72)
              have bbA := hb.alloc hb.size (.cells #[.int .u32 (r3 : Int)] 72)
              have szA : w.heap.size + 2 ≤ (wr.alloc (.cells #[.int .u32 (r3 : Int)] 72)).heap.size := by simp; omega
              have lA : (ks n).length ≤ 1000000 := by have := HL3.out; omega
              have HOA := Lib.hid (show (w.heap.size + 2) + 0 = w.heap.size + 2 from rfl)
              go_wp2_with (refine wpList_append_u32 _ rfl _ _ 74 rfl (w.heap.size + 2) i0 Tryd.underlying74 hi hz0 hz1 hz2 _ (ks n) rfl oA wr.heap.size r3 rfl cA lA szA ?_; intro v' wz ho2 hgr)
              have hB0' := b0A.appended oA hgr (by omega)
              have hB1' := b1A.appended oA hgr (by omega)
              have hb' := below_append bbA oA hgr (by omega) (by omega)
              have hsz' : w.heap.size + 2 ≤ wz.heap.size := Nat.le_trans szA hgr.size
              have HO2 := Lib.hid ho2
              clear ho2 hgr oA cA b0A b1A bbA szA lA
              go_wp2
              go_roundw
              case rel => exact ⟨n + 1, by omega, by omega, by go_num, by rw [HK.out]; exact HO2.out, hB0', (by rw [HH.out]; exact hB1'), hb', hsz'⟩
              case measure => simp [intOf]; omega
    · obtain rfl : n = 312 := by omega
      have hc64 : c3 = 64 := by rw [hnl, ks_len]; exact pl_all
      rw [ks_all] at ho
      have hT8 : rowU (hsL 312) = shaS.row := by rw [hs_all]; rfl
      rw [hT8] at hB1
      subst hc64
      have hi8 := shaS.row_info
      have h18 := shaS.row_one
      have hz8 := shaS.row_size
      clear hnl hT8
      generalize hR : shaS.row = R at hB1 hi8 h18 hz8
      have ER := Lib.hid hR
      clear hR
      have hth : wr.there w.heap.size 0 R.size := by rw [hz8, ← hZ]; exact hB0.there
      have hEE : Blk (wr.setCells w.heap.size 0 R.toList) w.heap.size 73 R := hB0.setRow (by rw [hz8, hZ])
      have hgE := grown_setCells w.heap.size R.toList 0 wr
      have hbE := Below.only hb hgE (Nat.le_refl _) hb.size
      have hoE : OwnU (wr.setCells w.heap.size 0 R.toList) w.heap.size (.slice A 64 c4) shaK := by
        refine ⟨ho.1, ?_⟩
        rcases ho.2 with h2 | ⟨g, cap, cur, hv, hg, hh, r⟩
        · exact Or.inl h2
        · have hlt : g < wr.heap.size := by
            rcases Nat.lt_or_ge g wr.heap.size with hlt | hge
            · exact hlt
            · rw [Array.getElem?_eq_none hge] at hh; cases hh
          exact Or.inr ⟨g, cap, cur, hv, by omega, (hgE.block g hlt (by intro e; injection e with e; omega)).trans hh, r⟩
      go_wp2_with (first | (refine wpList_load_row rfl 73 _ rfl (w.heap.size + 1) rfl 73 R (0, 0) _ hB1 Tryd.underlying73 rfl hi8 ?_) | (refine wpList_store_mid rfl 73 _ _ rfl w.heap.size 0 R rfl rfl hth hi8 h18 ?_))
      exact bodyPost_ret (v := .tuple #[.agg R, .slice A 64 c4]) (results_row_and rfl _ _ w.heap.size 73 R (0, 0) _ _ rfl rfl hEE Tryd.underlying73 rfl hi8) rfl ⟨_, by rw [ER.out], hoE, hbE⟩
end Go.Proofs.YthlopecllhdmhaaDoor

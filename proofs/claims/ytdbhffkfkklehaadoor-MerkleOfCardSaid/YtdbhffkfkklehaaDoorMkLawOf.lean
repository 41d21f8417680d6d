/-
  The law MerkleOf.
-/
import Derived.Test.YtdbhffkfkklehaaDoorMkStandsA
namespace Go.Proofs.YtdbhffkfkklehaaDoor
open Go.RowKit
set_option linter.unusedVariables false
set_option linter.unusedSimpArgs false
set_option maxRecDepth 100000

/-- A row of hashes, at a place. -/
theorem OwnH.at0 {w : World} {base gw : Nat} {n c : Nat} {L : List (List UInt8)} (h : OwnH w base (.slice (some ⟨gw, 0, none⟩) n c) L) (k : Nat) (hk : k < L.length) : w.rangeAt gw (k * 32) (hcells L[k]) := by
  obtain ⟨b, o, e, hr⟩ := h.sh.at_ k hk
  injection e with e
  injection e with eb eo _
  subst eb eo
  rwa [Nat.zero_add] at hr

set_option maxHeartbeats 4000000 in
theorem merkleOf_any (w : World) (v : Value) (L : List (List UInt8)) (h : Sh w v L) (hg : Gl w) : Calls Tryd.prog 4 #[v] w fun e w' => e = .returned (.bool true) ∧ Below w.heap.size w w' := by
  have hfo : Tryd.prog.follows .mixedOrders = true := by kernel_rfl
  obtain ⟨i0, hi, hz0, hz1, hz2⟩ := info_parts info_hash
  have HS := Lib.hid h
  obtain ⟨A, n, c, rfl⟩ := h.shape
  have hn := h.len
  subst hn
  clear h
  by_cases h300 : 300 < L.length
  · have h1 : (300 : Int) < (L.length : Int) := by omega
    go_enter Tryd.func4, Tryd.ntmps4
    go_wp2_with fail
    refine (known_any w hg).mono ?_
    rintro e w1 ⟨rfl, hb1⟩
    have HB := Lib.hid hb1
    clear hb1
    go_wp2
    go_ret
    exact ⟨rfl, HB.out⟩
  · have hlen : ([] : List (List UInt8)).length + L.length ≤ 1000000 := by simp; omega
    have h1 : ¬ (300 : Int) < (L.length : Int) := by omega
    go_enter Tryd.func4, Tryd.ntmps4
    go_wp2_with (at_builtin; refine wpList_append_hs _ rfl _ _ 27 rfl w.heap.size i0 Tryd.underlying27 hi hz0 hz1 hz2 (.slice none 0 0) [] rfl OwnH.nil (.slice A L.length c) L rfl HS.out hlen (Nat.le_refl _) ?_)
    intro v1 w1 ho1 hb1
    have HO := Lib.hid (show OwnH w1 w.heap.size v1 L by simpa using ho1)
    have HB := Lib.hid hb1
    clear ho1 hb1
    obtain ⟨A1, n1, c1, rfl⟩ := HO.out.sh.shape
    have hn1 := HO.out.sh.len
    subst hn1
    by_cases h64 : L.length = 64
    · have Hl := Lib.hid h64
      have hne : ((L.length : Int) != 64) = false := by rw [h64]; rfl
      clear h64 h300 hlen
      go_wp2_with fail
      refine (of_any w1 _ L HO.out.sh Hl.out (hg.below HB.out)).mono ?_
      rintro e w2 ⟨g, K, rfl, hgg, ht, hgood, hlv, hb2⟩
      have HT := Lib.hid ht
      have HGK := Lib.hid hgood
      have HLK := Lib.hid hlv
      have HGG := Lib.hid hgg
      have HO2 := Lib.hid (HO.out.below hb2)
      have HB2 := Lib.hid (HB.out.trans (hb2.mono HB.out.size))
      obtain ⟨go', rfl, _, hgo, hgo2, _⟩ := HO.out.block (by rw [Hl.out]; decide)
      have HGO := Lib.hid (show go' < g by omega)
      have HGOB := Lib.hid hgo
      clear hgo hgo2 ht hgood hlv hgg hb2
      go_wp2
      go_loopw [6] (fun z wr => ∃ (i : Nat) (N : List (List UInt8)), z = .int .i64 (i : Int) ∧ i ≤ 64 ∧ N.length = 64 ∧ (∀ k (h : k < N.length) (h2 : k < L.length), i ≤ k → N[k] = L[k]) ∧ OwnH wr w.heap.size (.slice (some ⟨go', 0, none⟩) L.length c1) N ∧ Tr wr g K ∧ Below w.heap.size w wr) (fun z _ => 64 - (intOf z).toNat)
      case atStart => exact ⟨0, L, rfl, by decide, Hl.out, fun k _ _ _ => rfl, HO2.out, HT.out, HB2.out⟩
      case round =>
        clear HO HB HO2 HB2 HT
        obtain ⟨i, N, rfl, hi64, hN, hall, ho, ht, hb⟩ := hrel
        have HO := Lib.hid ho
        have HT := Lib.hid ht
        have HB := Lib.hid hb
        have HNl := Lib.hid hN
        have HAll := Lib.hid hall
        clear ho ht hb hN hall
        by_cases hlt : i < 64
        · have hiN : i < N.length := by have := HNl.out; omega
          have hiL : i < L.length := by have := Hl.out; omega
          have h32 := HS.out.all _ (List.getElem_mem hiL)
          have hr1 := HO.out.at0 i hiN
          rw [HAll.out i hiN hiL (Nat.le_refl _)] at hr1
          obtain ⟨b, o, rfl, k0⟩ := HS.out.at_ i hiL
          have HR1 := Lib.hid (show wr.drew.rangeAt go' (i * 32) (hcells L[i]) from hr1)
          have HR2 := Lib.hid (show wr.drew.rangeAt b (o + i * 32) (hcells L[i]) from fun j x hx => (HB.out.drew.cell (World.block_lt_of_cell? w _ (k0 j x hx))).trans (k0 j x hx))
          obtain ⟨hil, _, _, _⟩ := hc_facts h32
          have HEQ := Lib.hid (fun w => hash_self L[i] h32 w)
          rw [← hcells_arr] at HEQ
          generalize hcells L[i] = C at HR1 HR2 hil HEQ
          have hi1 := rowB_info zero32_length
          have h11 := rowB_one zero32
          have hs1 := rowB_size zero32
          rw [zero32_length] at hs1
          obtain ⟨g4, hg4, hx64, _, _, hth⟩ := HO.out.block (by rw [HNl.out]; decide)
          injection hg4 with hg4
          injection hg4 with hg4 _ _
          subst hg4
          have hthi : wr.drew.there go' (i * 32) (rowB zero32).size := by rw [hs1]; exact hth i hiN
          have HSET := Lib.hid (HO.out.drew.set rfl i hiN zero32_length)
          rw [← rowB_list] at HSET
          have HML2 := Lib.hid (show (N.set i zero32).length = 64 by rw [List.length_set]; exact HNl.out)
          have HAL2 := Lib.hid (show ∀ k (h : k < (N.set i zero32).length) (h2 : k < L.length), i + 1 ≤ k → (N.set i zero32)[k] = L[k] from fun k h h2 hk => by
            rw [List.getElem_set, if_neg (by omega)]
            exact HAll.out k (by rw [List.length_set] at h; exact h) h2 (by omega))
          generalize N.set i zero32 = M2 at HSET HML2 HAL2
          have HZZ := Lib.hid (show rowB zero32 = #[.int .u8 0, .int .u8 0, .int .u8 0, .int .u8 0, .int .u8 0, .int .u8 0, .int .u8 0, .int .u8 0, .int .u8 0, .int .u8 0, .int .u8 0, .int .u8 0, .int .u8 0, .int .u8 0, .int .u8 0, .int .u8 0, .int .u8 0, .int .u8 0, .int .u8 0, .int .u8 0, .int .u8 0, .int .u8 0, .int .u8 0, .int .u8 0, .int .u8 0, .int .u8 0, .int .u8 0, .int .u8 0, .int .u8 0, .int .u8 0, .int .u8 0, .int .u8 0] from rfl)
          generalize rowB zero32 = R at hi1 h11 hs1 hthi HSET HZZ
          have hgrS := grown_setCells go' R.toList (i * 32) wr.drew
          have HBS := Lib.hid (Below.only HB.out.drew hgrS HGOB.out HB.out.size)
          have HTS := Lib.hid (HT.out.drew.grown hgrS (by have := HGO.out; omega))
          clear hth hs1 hx64 hgrS k0 hr1 h32
          have hi64' : (i : Int) < (L.length : Int) := by omega
          go_wp2_with fail
          refine wp_region_held_drew (S := fun X => X = wr.drew) hfo rfl (fun hS0 => ?_)
          generalize wr.drew = Z0 at *
          refine' wpAnyH_take (i := 0) (oi := ⟨some 37, _, _, _, _, _⟩) (v := _) rfl (by kernel_rfl) (by kernel_rfl) (by kernel_rfl) (fun _ _ _ h => h) (Or.inl ⟨by rfl, ?y0⟩) hS0 ?r0
          case y0 => (intro w' hSw; go_simp; try rfl)
          try simp only [Act.put, List.setIfInBounds_toArray, List.set_cons_zero, List.set_cons_succ]
          refine' wpAnyH_take (i := 1) (oi := ⟨some 38, _, _, _, _, _⟩) (v := _) rfl (by kernel_rfl) (by kernel_rfl) (by kernel_rfl) (fun _ _ _ h => h) (Or.inl ⟨by rfl, ?y1⟩) hS0 ?r1
          case y1 => (intro w' hSw; go_simp; try rfl)
          try simp only [Act.put, List.setIfInBounds_toArray, List.set_cons_zero, List.set_cons_succ]
          refine' wpAnyH_take (i := 2) (oi := ⟨some 39, _, _, _, _, _⟩) (v := _) rfl (by kernel_rfl) (by kernel_rfl) (by kernel_rfl) (fun _ _ _ h => h) (Or.inl ⟨by rfl, ?y2⟩) hS0 ?r2
          case y2 => (intro w' hSw; go_simp; try rfl)
          try simp only [Act.put, List.setIfInBounds_toArray, List.set_cons_zero, List.set_cons_succ]
          refine' wpAnyH_take (i := 4) (oi := ⟨some 41, _, _, _, _, _⟩) (v := _) rfl (by kernel_rfl) (by kernel_rfl) (by kernel_rfl) (fun _ _ _ h => h) (Or.inl ⟨by rfl, ?y4⟩) hS0 ?r4
          case y4 => (intro w' hSw; go_simp; try rfl)
          try simp only [Act.put, List.setIfInBounds_toArray, List.set_cons_zero, List.set_cons_succ]
          refine' wpAnyH_take (i := 5) (oi := ⟨some 42, _, _, _, _, _⟩) (v := _) rfl (by kernel_rfl) (by kernel_rfl) (by kernel_rfl) (fun _ _ _ h => h) (Or.inl ⟨by rfl, ?y5⟩) hS0 ?r5
          case y5 => (intro w' hSw; go_simp; try rfl)
          try simp only [Act.put, List.setIfInBounds_toArray, List.set_cons_zero, List.set_cons_succ]
          refine' wpAnyH_take (i := 6) (oi := ⟨some 43, _, _, _, _, _⟩) (v := _) rfl (by kernel_rfl) (by kernel_rfl) (by kernel_rfl) (fun _ _ _ h => h) (Or.inl ⟨by rfl, ?y6⟩) hS0 ?r6
          case y6 => (intro w' hSw; go_simp; try rfl)
          try simp only [Act.put, List.setIfInBounds_toArray, List.set_cons_zero, List.set_cons_succ]
          refine' wpAnyH_take (i := 3) (oi := ⟨some 40, _, _, _, _, _⟩) (v := .agg C.toArray) rfl (by kernel_rfl) (by kernel_rfl) (by kernel_rfl) (fun _ _ _ h => h) (yieldsIf_load_mid (by rfl) 39 _ rfl go' (i * 32) rfl C _ (fun X hX => by subst hX; exact HR1.out) Tryd.underlying39 rfl hil) hS0 ?r3
          try simp only [Act.put, List.setIfInBounds_toArray, List.set_cons_zero, List.set_cons_succ]
          refine' wpAnyH_take (i := 7) (oi := ⟨some 44, _, _, _, _, _⟩) (v := .agg C.toArray) rfl (by kernel_rfl) (by kernel_rfl) (by kernel_rfl) (fun _ _ _ h => h) (yieldsIf_load_mid (by rfl) 39 _ rfl b (o + i * 32) rfl C _ (fun X hX => by subst hX; exact HR2.out) Tryd.underlying39 rfl hil) hS0 ?r7
          try simp only [Act.put, List.setIfInBounds_toArray, List.set_cons_zero, List.set_cons_succ]
          refine' wpAnyH_take (i := 8) (oi := ⟨some 45, _, _, _, _, _⟩) (v := _) rfl (by kernel_rfl) (by kernel_rfl) (by kernel_rfl) (fun _ _ _ h => h) (Or.inl ⟨by rfl, ?y8⟩) hS0 ?r8
          case y8 => (intro w' hSw; have e3 := HEQ.out; go_simp; try rfl)
          try simp only [Act.put, List.setIfInBounds_toArray, List.set_cons_zero, List.set_cons_succ]
          refine wpAnyH_done (by kernel_rfl) ?_ _
          go_wp2_with (refine wpList_store_mid rfl 39 _ _ rfl go' (i * 32) R rfl (by rw [HZZ.out]; rfl) hthi hi1 h11 ?_)
          go_roundw
          case rel => exact ⟨i + 1, M2, by go_num, by omega, HML2.out, HAL2.out, HSET.out, HTS.out, HBS.out⟩
          case measure => simp [intOf]; omega
        · obtain rfl : i = 64 := by omega
          have hxx : ¬ (64 : Int) < (L.length : Int) := by have := Hl.out; omega
          go_wp2_with (go_at_call 17; refine (num_any _ _).mono ?_; rintro e w' ⟨rfl, rfl⟩)
          refine (stands_any wr g K _ L HT.out HGK.out (HS.out.below HB.out) HLK.out).mono ?_
          rintro e w5 ⟨rfl, hb5⟩
          have HB5 := Lib.hid (HB.out.trans (hb5.mono HB.out.size))
          clear hb5
          go_wp2_with fail
          refine (known_any w5 (hg.below HB5.out)).mono ?_
          rintro e w6 ⟨rfl, hb6⟩
          have HB6 := Lib.hid (HB5.out.trans (hb6.mono HB5.out.size))
          clear hb6
          go_wp2
          go_ret
          exact ⟨rfl, HB6.out⟩
    · have hne : ((L.length : Int) != 64) = true := by rw [bne_iff_ne]; omega
      go_wp2_with fail
      refine (of_no w1 _ L HO.out.sh h64).mono ?_
      rintro e w2 ⟨rfl, rfl⟩
      go_wp2_with (go_at_call 17; refine (num_any _ _).mono ?_; rintro e w' ⟨rfl, rfl⟩)
      refine (known_any w1 (hg.below HB.out)).mono ?_
      rintro e w2 ⟨rfl, hb2⟩
      have HB2 := Lib.hid (HB.out.trans (hb2.mono HB.out.size))
      clear hb2
      go_wp2
      go_ret
      exact ⟨rfl, HB2.out⟩
end Go.Proofs.YtdbhffkfkklehaaDoor

/-
  The walk of CtxOrder: its loops.
-/
import Derived.Test.YtihegikilidofaaCtxLawOrder
namespace Go.Proofs.Ytihegikilidofaa
open Go.RowKit
open CtxM
set_option linter.unusedVariables false
set_option linter.unusedSimpArgs false
set_option maxRecDepth 20000

set_option maxHeartbeats 8000000 in
theorem order_short (vl vo vs : Value) (L : List Dt) (O : List Int) (M : List Dt) (w : World) (hL : Sd w vl L) (hO : Si w vo O) (hM : Sd w vs M) (hl : L.length ≤ 80) (ho : O.length ≤ 160) (hm : M.length ≤ 80) :
    Calls Try.prog 8 #[vl, vo, vs] w fun e w' => e = .returned (.bool true) ∧ Below w.heap.size w w' := by
  have hfo : Try.prog.follows .mixedOrders = true := by kernel_rfl
  have HL := Lib.hid hL
  have HO := Lib.hid hO
  have HM := Lib.hid hM
  obtain ⟨A, c, rfl, _, _⟩ := hL
  obtain ⟨A2, c2, rfl, _, _⟩ := hO
  obtain ⟨A3, c3, rfl, _, _⟩ := hM
  have b1 : ¬ (80 : Int) < (L.length : Int) := by omega
  have b2 : ¬ (160 : Int) < (O.length : Int) := by omega
  have b3 : ¬ (80 : Int) < (M.length : Int) := by omega
  go_enter Try.func8, Try.ntmps8
  go_wp2_with fail
  refine (of_any _ L w HL.out (by omega)).mono ?_
  rintro e w1 ⟨ha, rfl, hTa, hb1⟩
  have hA1 := hTa.lone
  clear b1 b2 b3 hTa
  go_wp2_with fail
  refine (new_any w1).mono ?_
  rintro e w2 ⟨rfl, hc2, hb2⟩
  have hB2 := Lone.new hc2
  have hz2 := hb2.size
  clear hc2
  go_wp2
  go_loopw [10] (fun z wr => ∃ (i : Nat) (N : List Dt), z = .int .i64 (i : Int) ∧ i ≤ O.length ∧ (∀ d ∈ N, d ∈ L) ∧ N.length ≤ i ∧ Lone wr w1.heap.size w1.heap.size (addAll (zeros, []) N) ∧ Below w1.heap.size w1 wr ∧ w1.heap.size ≤ wr.heap.size) (fun z _ => O.length - (intOf z).toNat)
  case atStart => exact ⟨0, [], rfl, Nat.zero_le _, (by simp), Nat.le_refl _, hB2, hb2, hz2⟩
  case round =>
    clear hB2 hb2 hz2
    obtain ⟨i, N, rfl, hi, hN, hNl, hB, hb, hz⟩ := hrel
    by_cases hgo : i < O.length ∧ 0 < L.length
    · obtain ⟨hlt, hne⟩ := hgo
      obtain ⟨x, hx⟩ : ∃ x, O[i] = x := ⟨_, rfl⟩
      obtain ⟨j, hj, r, hr1, hr2, hr3⟩ := turn_rem x L.length hne hl
      obtain ⟨d, hd⟩ : ∃ d, L[j] = d := ⟨_, rfl⟩
      have hbw := hb1.trans (hb.mono hb1.size)
      obtain ⟨b, o, rfl, k0⟩ := HO.out.at_ hbw i hlt x hx
      obtain ⟨b', o', rfl, k1, k2⟩ := (HL.out.below hbw).at_ j hj d hd
      have hil : (i : Int) < (O.length : Int) := by omega
      have hne1 : (0 : Int) < (L.length : Int) := by omega
      have hne2 : ((L.length : Int) == 0) = false := by rw [beq_eq_false_iff_ne]; omega
      have hjl : (j : Int) < (L.length : Int) := by omega
      have HD := Lib.hid (show d ∈ L by rw [← hd]; exact List.getElem_mem hj)
      have HNN := Lib.hid hN
      have HLT := Lib.hid hlt
      clear hx hd hN
      go_wp2_with fail
      refine (lone_add hB (by have := addAll_len N; omega) hb hz).mono ?_
      rintro e w3 ⟨rfl, hB3, hb3, hz3⟩
      rw [← addAll_snoc] at hB3
      clear k0 k1 k2 hr1 hr2 hr3 hB hb hz
      go_wp2
      refine ⟨⟨i + 1, N ++ [d], by go_num, HLT.out, ?_, by simp; omega, hB3, hb3, hz3⟩, by have := HLT.out; simp [intOf]; omega⟩
      intro y hy
      rcases List.mem_append.1 hy with h | h
      · exact HNN.out y h
      · rw [List.mem_singleton] at h; rw [h]; exact HD.out
    · have hex : (¬ (i : Int) < (O.length : Int)) ∨ ((i : Int) < (O.length : Int) ∧ decide ((0 : Int) < (L.length : Int)) = false ∧ decide (0 < L.length) = false) := by
        by_cases h : i < O.length
        · exact .inr ⟨by omega, decide_eq_false (by omega), decide_eq_false (by omega)⟩
        · exact .inl (by omega)
      have hNO : N.length ≤ 160 := by omega
      clear hgo hi hNl
      rename World => wold
      have hB1 := hB
      have hb11 := hb
      have hz1 := hz
      clear hB hb hz
      have HN := Lib.hid hN
      clear hN
      rcases hex with hx1 | ⟨hx1, hx2, hx3⟩
      all_goals
        go_wp2
        go_loopw [11] (fun z wq => ∃ (t : Int) (N' : List Dt), z = .int .i64 t ∧ -1 ≤ t ∧ t < L.length ∧ (∀ d ∈ N', d ∈ L) ∧ (∀ d ∈ L.drop (t + 1).toNat, d ∈ N') ∧ N'.length ≤ 160 + (L.length - (t + 1).toNat) ∧ Lone wq w1.heap.size w1.heap.size (addAll (zeros, []) N') ∧ Below w1.heap.size w1 wq ∧ w1.heap.size ≤ wq.heap.size) (fun z _ => (intOf z + 1).toNat)
        case atStart => exact ⟨(L.length : Int) - 1, N, by go_num, by omega, by omega, HN.out, by simp, by omega, hB1, hb11, hz1⟩
        case round =>
          clear hB1 hb11 hz1 hx1
          obtain ⟨t, N', rfl, ht1, ht2, hN', hNd, hNl, hB, hb, hz⟩ := hrel
          by_cases h0 : 0 ≤ t
          · obtain ⟨m, rfl⟩ : ∃ m : Nat, t = (m : Int) := ⟨t.toNat, by omega⟩
            have hj : m < L.length := by omega
            obtain ⟨d, hd⟩ : ∃ d, L[m] = d := ⟨_, rfl⟩
            have hbw := hb1.trans (hb.mono hb1.size)
            obtain ⟨b', o', rfl, k1, k2⟩ := (HL.out.below hbw).at_ m hj d hd
            have hjl : (m : Int) < (L.length : Int) := by omega
            have hm0 : (0 : Int) ≤ (m : Int) := by omega
            have HDD := Lib.hid (show L.drop m = d :: L.drop (m + 1) by rw [← hd]; exact List.drop_eq_getElem_cons hj)
            have HD := Lib.hid (show d ∈ L by rw [← hd]; exact List.getElem_mem hj)
            rw [show ((m : Int) + 1).toNat = m + 1 by omega] at hNd hNl
            have HN1 := Lib.hid hN'
            have HN2 := Lib.hid hNd
            have HJ := Lib.hid hj
            clear hd hN' hNd h0
            go_wp2_with fail
            refine (lone_add hB (by have := addAll_len N'; omega) hb hz).mono ?_
            rintro e w3 ⟨rfl, hB3, hb3, hz3⟩
            rw [← addAll_snoc] at hB3
            clear k1 k2 hB hb hz
            go_wp2
            refine ⟨⟨(m : Int) - 1, N' ++ [d], by go_num, by omega, by omega, ?_, ?_, by have := HJ.out; simp; omega, hB3, hb3, hz3⟩, by simp [intOf] <;> omega⟩
            · intro y hy
              rcases List.mem_append.1 hy with h | h
              · exact HN1.out y h
              · rw [List.mem_singleton] at h; rw [h]; exact HD.out
            · intro y hy
              rw [show ((m : Int) - 1 + 1).toNat = m by omega, HDD.out] at hy
              rcases List.mem_cons.1 hy with h | h
              · rw [h]; simp
              · exact List.mem_append_left _ (HN2.out y h)
          · have hall : addAll (zeros, []) N' = addAll (zeros, []) L := addAll_same fun d => ⟨hN' d, fun h => hNd d (by rw [show (t + 1).toNat = 0 by omega]; exact h)⟩
            rw [hall] at hB
            have ht0 : ¬ (0 : Int) ≤ t := h0
            have hbw := hb1.trans (hb.mono hb1.size)
            clear hall hN' hNd hNl
            go_wp2_with fail
            refine (of_any _ M _ (HM.out.below hbw) (by omega)).mono ?_
            rintro e w3 ⟨hc, rfl, hTc, hb3⟩
            have hA3 := (hA1.below hb).below hb3
            have hB3 := hB.below hb3
            have hC3 := hTc.lone
            have hbw3 := hbw.trans (hb3.mono hbw.size)
            have hcov := cov_list (addAll_fit L) M
            have hSl : (addAll (zeros, []) L).2.length ≤ 80 := by have := addAll_len L; omega
            have hCl : (addAll (zeros, []) M).2.length ≤ 80 := by have := addAll_len M; omega
            clear hTc hB hb hz ht0 h0 ht1 ht2 hbw hb3
            generalize addAll (zeros, []) L = S at hA3 hB3 hcov hSl
            generalize addAll (zeros, []) M = C at hC3 hcov hCl
            go_wp2
            go_loopw [14, 15] (fun y z wq => ∃ n : Nat, z = .int .i64 (n : Int) ∧ n ≤ M.length ∧ y = .bool (decide (∀ d ∈ M.take n, In S.1 S.2 d ∨ ¬ May d)) ∧ Grw w3 wq) (fun _ z _ => M.length - (intOf z).toNat)
            case atStart => exact ⟨0, rfl, Nat.zero_le _, by simp, Grw.refl _⟩
            case round =>
              obtain ⟨n, rfl, hn, rfl, hg⟩ := hrel
              by_cases hlt : n < M.length
              · obtain ⟨d, hd⟩ : ∃ d, M[n] = d := ⟨_, rfl⟩
                have hst : (∀ x ∈ M.take (n + 1), In S.1 S.2 x ∨ ¬ May x) ↔ (∀ x ∈ M.take n, In S.1 S.2 x ∨ ¬ May x) ∧ (In S.1 S.2 d ∨ ¬ May d) := by
                  rw [List.take_succ_eq_append_getElem hlt, hd]
                  simp [or_imp, forall_and]
                have HST := Lib.hid hst
                have hbw4 := hbw3.trans (hg.below.mono hbw3.size)
                obtain ⟨b', o', rfl, k1, k2⟩ := (HM.out.below hbw4).at_ n hlt d hd
                have hil : (n : Int) < (M.length : Int) := by omega
                obtain ⟨va, hCa, _⟩ := hA3.below hg.below
                have hhas := has_any _ va S.1 S.2 d _ hCa (by omega)
                have HLT := Lib.hid hlt
                clear hst hd hCa
                by_cases hq : ∀ x ∈ M.take n, In S.1 S.2 x ∨ ¬ May x
                · rw [decide_eq_true hq]
                  have HQ := Lib.hid hq
                  clear hq
                  by_cases hIn : In S.1 S.2 d
                  · rw [decide_eq_true hIn] at hhas
                    have HI := Lib.hid hIn
                    clear hIn
                    go_wp2_with fail
                    refine hhas.mono ?_
                    rintro e w4 ⟨rfl, hg4⟩
                    clear hhas k1 k2
                    go_wp2
                    exact ⟨⟨n + 1, by go_num, HLT.out, by rw [decide_eq_true (HST.out.2 ⟨HQ.out, .inl HI.out⟩)], hg.trans hg4⟩, by have := HLT.out; simp [intOf] <;> omega⟩
                  · rw [decide_eq_false hIn] at hhas
                    have HI := Lib.hid hIn
                    clear hIn
                    go_wp2_with fail
                    refine hhas.mono ?_
                    rintro e w4 ⟨rfl, hg4⟩
                    clear hhas
                    have q1 := (hg4.below.cell (World.block_lt_of_cell? _ _ k1)).trans k1
                    have q2 := (hg4.below.cell (World.block_lt_of_cell? _ _ k2)).trans k2
                    clear k1 k2
                    go_wp2_with fail
                    refine (refMay_any d w4).mono ?_
                    rintro e w5 ⟨rfl, hg5⟩
                    clear q1 q2
                    by_cases hMay : May d
                    · rw [decide_eq_true hMay]
                      have HY := Lib.hid hMay
                      clear hMay
                      go_wp2
                      exact ⟨⟨n + 1, by go_num, HLT.out, by rw [decide_eq_false (fun h => (HST.out.1 h).2.elim HI.out (fun k => k HY.out))], (hg.trans hg4).trans hg5⟩, by have := HLT.out; simp [intOf] <;> omega⟩
                    · rw [decide_eq_false hMay]
                      have HY := Lib.hid hMay
                      clear hMay
                      go_wp2
                      exact ⟨⟨n + 1, by go_num, HLT.out, by rw [decide_eq_true (HST.out.2 ⟨HQ.out, .inr HY.out⟩)], (hg.trans hg4).trans hg5⟩, by have := HLT.out; simp [intOf] <;> omega⟩
                · rw [decide_eq_false hq]
                  have HQ := Lib.hid hq
                  clear hq hhas k1 k2
                  go_wp2
                  exact ⟨⟨n + 1, by go_num, HLT.out, by rw [decide_eq_false (fun h => HQ.out (HST.out.1 h).1)], hg⟩, by have := HLT.out; simp [intOf] <;> omega⟩
              · obtain rfl : n = M.length := by omega
                rw [List.take_length, ← hcov]
                have hA4 := hA3.below hg.below
                have hB4 := hB3.below hg.below
                have hC4 := hC3.below hg.below
                have hbw4 := hbw3.trans (hg.below.mono hbw3.size)
                clear hA3 hB3 hC3 hcov hlt hn hbw3 hg
                obtain ⟨va, Ca, _⟩ := hA4
                obtain ⟨vb, Cb, _⟩ := hB4
                obtain ⟨vc, Cc, _⟩ := hC4
                have s1 := same_any _ _ va vb S.1 S.1 S.2 S.2 _ Ca Cb (by omega) (by omega)
                have s2 := fun W (hb : Below wr.heap.size wr W) => same_any _ _ vb va S.1 S.1 S.2 S.2 W (Cb.below hb) (Ca.below hb) (by omega) (by omega)
                have s3 := fun W (hb : Below wr.heap.size wr W) => covers_any _ _ va vc S.1 C.1 S.2 C.2 W (Ca.below hb) (Cc.below hb) (by omega) (by omega)
                simp only [and_self, decide_true] at s1 s2
                generalize covB S.1 S.2 C.1 C.2 = q at s3 ⊢
                clear Ca Cb Cc
                cases q
                all_goals
                  go_wp2_with fail
                  refine s1.mono ?_
                  rintro e w4 ⟨rfl, hb4⟩
                  go_wp2_with fail
                  refine (s2 w4 hb4).mono ?_
                  rintro e w5 ⟨rfl, hb5⟩
                  have hb45 := hb4.trans (hb5.mono hb4.size)
                  go_wp2_with fail
                  refine (s3 w5 hb45).mono ?_
                  rintro e w6 ⟨rfl, hb6⟩
                  have hb456 := hb45.trans (hb6.mono hb45.size)
                  go_wp2_with fail
                  refine (known_any w6).mono ?_
                  rintro e w7 ⟨rfl, hb7⟩
                  go_wp2
                  go_ret
                  exact ⟨rfl, hbw4.trans ((hb456.trans (hb7.mono hb456.size)).mono hbw4.size)⟩
end Go.Proofs.Ytihegikilidofaa

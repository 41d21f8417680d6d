/-
  The document's MayDot, Less, May.
-/
import Derived.Test.YtigepbklpiilpaaEvRdy
import Derived.Test.YtigepbklpiilpaaEvRef
import Derived.Deep.Cut
namespace Go.Proofs.Ytigepbklpiilpaa
open Go.RowKit
open CtxM
set_option linter.unusedVariables false
set_option linter.unusedSimpArgs false
set_option maxRecDepth 20000

theorem rmayDot_any (d : Dt) (w : World) : Calls Try.prog 32 #[.agg #[.int .i64 d.1, .int .u64 (d.2 : Int)]] w fun e w' => e = .returned (.bool (decide (May d))) ∧ Grw w w' := by
  have hg := (Grw.refl w).alloc (.cells #[.int .i64 d.1, .int .u64 (d.2 : Int)] 24)
  go_enter Try.func32, Try.ntmps32
  by_cases h1 : 1 ≤ d.1
  · by_cases h2 : d.1 ≤ 16
    · by_cases h3 : (1 : Int) ≤ (d.2 : Int)
      · by_cases h4 : (d.2 : Int) ≤ 4611686018427387904
        · go_wp2
          go_ret
          exact ⟨ret_bool (by rw [eq_comm, decide_eq_true_iff]; exact ⟨h1, h2, by omega, by unfold top; omega⟩), hg⟩
        · go_wp2
          go_ret
          exact ⟨ret_bool (by rw [eq_comm, decide_eq_false_iff_not]; rintro ⟨_, _, _, h⟩; unfold top at h; omega), hg⟩
      · go_wp2
        go_ret
        exact ⟨ret_bool (by rw [eq_comm, decide_eq_false_iff_not]; rintro ⟨_, _, h, _⟩; omega), hg⟩
    · go_wp2
      go_ret
      exact ⟨ret_bool (by rw [eq_comm, decide_eq_false_iff_not]; rintro ⟨_, h, _, _⟩; omega), hg⟩
  · go_wp2
    go_ret
    exact ⟨ret_bool (by rw [eq_comm, decide_eq_false_iff_not]; rintro ⟨h, _, _, _⟩; omega), hg⟩

theorem rless_any (a b : Dt) (w : World) : Calls Try.prog 33 #[.agg #[.int .i64 a.1, .int .u64 (a.2 : Int)], .agg #[.int .i64 b.1, .int .u64 (b.2 : Int)]] w fun e w' => e = .returned (.bool (decide (Lt a b))) ∧ Grw w w' := by
  have hg := ((Grw.refl w).alloc (.cells #[.int .i64 a.1, .int .u64 (a.2 : Int)] 24)).alloc (.cells #[.int .i64 b.1, .int .u64 (b.2 : Int)] 24)
  go_enter Try.func33, Try.ntmps33
  by_cases h0 : a.1 < b.1
  · go_wp2
    go_ret
    exact ⟨ret_bool (by rw [eq_comm, decide_eq_true_iff]; exact .inl h0), hg⟩
  · by_cases h1 : a.1 = b.1
    · have k1 : (a.1 == b.1) = true := by rw [beq_iff_eq]; exact h1
      have k0 : decide (a.1 < b.1) = false := decide_eq_false h0
      have e : Lt a b ↔ a.2 < b.2 := by unfold Lt; omega
      have E := Lib.hid e
      have H0 := Lib.hid h0
      clear e h1 h0
      go_wp2
      go_ret
      exact ⟨ret_bool (by rw [Bool.eq_iff_iff, decide_eq_true_iff, decide_eq_true_iff]; exact E.out.symm), hg⟩
    · have k1 : (a.1 == b.1) = false := by rw [beq_eq_false_iff_ne]; exact h1
      go_wp2
      go_ret
      exact ⟨ret_bool (by rw [eq_comm, decide_eq_false_iff_not]; unfold Lt; omega), hg⟩

theorem evB_iff {x : Ev} : evB x = true ↔ PastOk x.id x.V ∧ nameB x.topic = true ∧ x.P.length ≤ 512 ∧ ToOk x.T := by
  unfold evB
  rw [Bool.and_eq_true, Bool.and_eq_true, Bool.and_eq_true, decide_eq_true_iff, decide_eq_true_iff, toB_iff]
theorem evB_no {x : Ev} (h : ¬ (PastOk x.id x.V ∧ nameB x.topic = true ∧ x.P.length ≤ 512 ∧ ToOk x.T)) : evB x = false := by
  cases hb : evB x
  · rfl
  · exact absurd (evB_iff.1 hb) h

set_option maxHeartbeats 8000000 in
theorem rmay_any (x : Ev) (w : World) (hx : EvOk w x) : Calls Try.prog 11 #[.agg (evc x)] w fun e w' => e = .returned (.bool (evB x)) ∧ Grw w w' := by
  have hfo : Try.prog.follows .mixedOrders = true := by kernel_rfl
  have hb0 : Grw w (w.alloc (.cells (evc x) 30)) := (Grw.refl _).alloc _
  have hB := Blk.new w 30 (evc x)
  have hX := hx.below hb0.below
  have hV := hx.len
  obtain ⟨Ap, cp, hpl, _⟩ := id hX.pl
  obtain ⟨At, ct, hto⟩ := hX.to.shape
  have HS := Lib.hid hX.to
  have HE := Lib.hid (@evB_no x)
  have HY := Lib.hid (@evB_iff x)
  generalize evB x = eb at HE HY ⊢
  go_enter Try.func11, Try.ntmps11
  go_upto_region 1 with fail
  generalize w.alloc (.cells (evc x) 30) = w1 at hb0 hB hX HS ⊢
  rw [hto] at HS
  have h1 := fun W => rmayDot_any x.id W
  have h2 := fun W => rmayVector_any x.V W hV
  have h3 : ∀ W, Calls Try.prog 21 #[.string x.topic] W fun e w' => e = .returned (.bool (nameB x.topic)) ∧ Grw W w' := fun W => (rmayName_any x.topic W).mono (by rintro e w' ⟨rfl, rfl⟩; exact ⟨rfl, Grw.refl _⟩)
  have q0 : ∀ n os, (Go.Sort.grow (w1.drewN n) os).cell? ⟨w.heap.size, 0, none⟩ = some (.int .i64 x.id.1) := cell_grown hB.lt (ev_0 hB)
  have q1 : ∀ n os, (Go.Sort.grow (w1.drewN n) os).cell? ⟨w.heap.size, 1, none⟩ = some (.int .u64 (x.id.2 : Int)) := cell_grown hB.lt (ev_1 hB)
  have q2 : ∀ n os, (Go.Sort.grow (w1.drewN n) os).cell? ⟨w.heap.size, 2, none⟩ = some (.string x.topic) := cell_grown hB.lt (ev_2 hB)
  have q3 : ∀ n os, (Go.Sort.grow (w1.drewN n) os).cell? ⟨w.heap.size, 3, none⟩ = some (.slice Ap x.P.length cp) := cell_grown hB.lt (by rw [ev_3 hB, hpl])
  have q4 : ∀ n os, (Go.Sort.grow (w1.drewN n) os).cell? ⟨w.heap.size, 20, none⟩ = some (.slice At x.T.length ct) := cell_grown hB.lt (by rw [ev_20 hB hV, hto])
  by_cases hM : May x.id
  · rw [decide_eq_true hM] at h1
    obtain ⟨k, hk⟩ : ∃ k : Nat, x.id.1 = (k : Int) + 1 := ⟨(x.id.1 - 1).toNat, by have := hM.1; omega⟩
    have hk16 : k < 16 := by have := hM.2.1; omega
    have hki : (k : Int) < 16 := by omega
    have q5 : ∀ n os, (Go.Sort.grow (w1.drewN n) os).cell? ⟨w.heap.size, 4 + k, none⟩ = some (.int .u64 (x.V.getD k 0 : Int)) := cell_grown hB.lt (ev_at hB hV k hk16)
    have hwk : IntKind.i64.wrap (k : Int) = (k : Int) := by rw [IntKind.wrap_i64]; omega
    have HAT := Lib.hid (show at_ x.V x.id.1 = x.V.getD k 0 by unfold at_; rw [hk, show ((k : Int) + 1 - 1).toNat = k by omega])
    have HMV : Hid (∀ b, (∀ n ∈ x.V, n ≤ b) → x.V.getD k 0 ≤ b) := Lib.hid fun b h => h _ (by rw [List.getD_eq_getElem?_getD, List.getElem?_eq_getElem (by omega)]; exact List.getElem_mem _)
    rw [hk] at q0 h1
    generalize x.V.getD k 0 = m at q5 HAT HMV
    have HK := Lib.hid hk
    have HM := Lib.hid hM
    clear hk hM hpl hto

    by_cases hL : ∀ n ∈ x.V, n ≤ top
    · rw [decide_eq_true hL] at h2
      have hm := HMV.out _ hL
      have hmt : (m : Int) ≤ 4611686018427387904 := by unfold top at hm; omega
      have hwm : IntKind.u64.wrap ((m : Int) + 1) = (m : Int) + 1 := by rw [IntKind.wrap_u64]; omega
      have HL := Lib.hid hL
      clear hL hm
      by_cases hc : m + 1 = x.id.2
      · have k1 : ((m : Int) + 1 != (x.id.2 : Int)) = false := by rw [bne_eq_false_iff_eq]; omega
        have HPO := Lib.hid (show PastOk x.id x.V from ⟨HM.out, by rw [HAT.out]; exact hc, HL.out⟩)
        clear hc
        cases hn : nameB x.topic
        · have HN := Lib.hid hn
          rw [hn] at h3
          clear hn
          refine wp_region_quiet_grown (by assumption) (by kernel_rfl) ?_
          repeat (first | go_big_quiet_skip | (refine q_load (by rfl) 27 _ rfl w.heap.size 4 rfl (uqs x.V) _ hB.lt (ev_range hB hV) Try.underlying27 rfl (uqs_info hV) ?_; try simp only [Act.put, List.setIfInBounds_toArray, List.set_cons_zero, List.set_cons_succ]) | go_big_quiet_step (first | (go_at_call 32; refine Calls.grown_of (h1 _)) | (go_at_call 22; refine Calls.grown_of (h2 _)) | (go_at_call 21; refine Calls.grown_of (h3 _))))
          refine wpQuiet_nil ?_
          rintro _ ⟨⟨nq, osq⟩, rfl⟩
          go_wp2
          go_ret
          exact ⟨ret_bool (HE.out (fun h => by rw [HN.out] at h; cases h.2.1)).symm, hb0.trans ⟨nq, osq, rfl⟩⟩
        · have HN := Lib.hid hn
          rw [hn] at h3
          clear hn
          by_cases hp : x.P.length ≤ 512
          · have kp : ¬ (512 : Int) < (x.P.length : Int) := by omega
            have kpd : decide ((512 : Int) < (x.P.length : Int)) = false := decide_eq_false kp
            by_cases ht : x.T.length ≤ 1024
            · have kt : ¬ (1024 : Int) < (x.T.length : Int) := by omega
              have ktd : decide ((1024 : Int) < (x.T.length : Int)) = false := decide_eq_false kt
              refine wp_region_quiet_grown (by assumption) (by kernel_rfl) ?_
              repeat (first | go_big_quiet_skip | (refine q_load (by rfl) 27 _ rfl w.heap.size 4 rfl (uqs x.V) _ hB.lt (ev_range hB hV) Try.underlying27 rfl (uqs_info hV) ?_; try simp only [Act.put, List.setIfInBounds_toArray, List.set_cons_zero, List.set_cons_succ]) | go_big_quiet_step (first | (go_at_call 32; refine Calls.grown_of (h1 _)) | (go_at_call 22; refine Calls.grown_of (h2 _)) | (go_at_call 21; refine Calls.grown_of (h3 _))))
              refine wpQuiet_nil ?_
              rintro _ ⟨⟨nq, osq⟩, rfl⟩
              clear h1 h2 h3 q0 q1 q2 q3 q5 hwk hwm k1 kp kpd kt ktd hmt hki
              have hg0 : Grw w1 (Go.Sort.grow (w1.drewN nq) osq) := ⟨nq, osq, rfl⟩
              generalize Go.Sort.grow (w1.drewN nq) osq = w2 at hg0 ⊢
              have HPP := Lib.hid hp
              have HTT := Lib.hid ht
              clear hp
              go_wp2
              go_loopw [3] (fun y wr => ∃ i : Nat, y = .int .i64 (i : Int) ∧ i ≤ x.T.length ∧ (∀ j (h : j < x.T.length), j < i → OneOk x.T j x.T[j]) ∧ Grw w1 wr) (fun y _ => x.T.length - (intOf y).toNat)
              case atStart => exact ⟨0, rfl, Nat.zero_le _, fun j _ h => absurd h (by omega), hg0⟩
              case round =>
                clear hg0
                obtain ⟨i, rfl, hi, hok, hg⟩ := hrel
                have HO := Lib.hid hok
                clear hok
                have hBr := hB.below hg.below hB.lt
                have c44 : wr.cell? ⟨w.heap.size, 20, none⟩ = some (.slice At x.T.length ct) := by
                  obtain ⟨a, b, rfl⟩ := hg
                  exact q4 a b
                have c4 : ∀ n os, (Go.Sort.grow (wr.drewN n) os).cell? ⟨w.heap.size, 20, none⟩ = some (.slice At x.T.length ct) := cell_grown hBr.lt c44
                by_cases hlt : i < x.T.length
                · obtain ⟨b, o, rfl, e0, e1, e2⟩ := (HS.out.below hg.below).at_ i hlt
                  have HSr := HS.out.below hg.below
                  obtain ⟨t, ht2, HX⟩ : ∃ t, x.T[i] = t ∧ Hid (x.T[i] = t) := ⟨_, rfl, Lib.hid rfl⟩
                  rw [ht2] at e0 e1 e2
                  have hblt := World.block_lt_of_cell? wr _ e0
                  have p0 : ∀ n os, (Go.Sort.grow (wr.drewN n) os).cell? ⟨b, o + i * 3, none⟩ = some (.int .i64 t.1.1) := cell_grown hblt e0
                  have p1 : ∀ n os, (Go.Sort.grow (wr.drewN n) os).cell? ⟨b, o + i * 3 + 1, none⟩ = some (.int .u64 (t.1.2 : Int)) := cell_grown hblt e1
                  have p2 : ∀ n os, (Go.Sort.grow (wr.drewN n) os).cell? ⟨b, o + i * 3 + 2, none⟩ = some (.string t.2) := cell_grown hblt e2
                  have g1 := fun W => rmayDot_any t.1 W
                  have g2 : ∀ W, Calls Try.prog 21 #[.string t.2] W fun e w' => e = .returned (.bool (nameB t.2)) ∧ Grw W w' := fun W => (rmayName_any t.2 W).mono (by rintro e w' ⟨rfl, rfl⟩; exact ⟨rfl, Grw.refl _⟩)
                  have HLT := Lib.hid hlt
                  have hi1024 : i < 1024 := by have := HTT.out; omega
                  clear q4 ht ht2
                  by_cases pm : May t.1
                  · rw [decide_eq_true pm] at g1
                    have PM := Lib.hid pm
                    clear pm
                    cases pn : nameB t.2
                    · rw [pn] at g2
                      have PN := Lib.hid pn
                      clear pn
                      go_upto_region 6 with fail
                      refine wp_region_quiet_grown (by assumption) (by kernel_rfl) ?_
                      repeat (first | go_big_quiet_skip | go_big_quiet_step (first | (go_at_call 32; refine Calls.grown_of (g1 _)) | (go_at_call 21; refine Calls.grown_of (g2 _)) | (go_at_call 33; refine Calls.grown_of (g3 _))))
                      refine wpQuiet_nil ?_
                      rintro _ ⟨⟨nq, osq⟩, rfl⟩
                      go_wp2
                      go_ret
                      refine ⟨ret_bool (HE.out (fun h => ?_)).symm, hb0.trans (hg.trans ⟨nq, osq, rfl⟩)⟩
                      have h9 := h.2.2.2.2 i HLT.out
                      rw [HX.out] at h9
                      exact absurd h9.2.1 (by rw [PN.out]; decide)
                    · rw [pn] at g2
                      have PN := Lib.hid pn
                      clear pn
                      rcases Nat.eq_zero_or_pos i with h0 | hpos
                      · have HOK := Lib.hid (show OneOk x.T i t from ⟨PM.out, PN.out, by rw [h0]; exact .inl (by show (0 : Int) < t.1.1; have := PM.out.1; omega)⟩)
                        have kj0 : ¬ (0 : Int) < (i : Int) := by omega
                        have kjd : decide ((0 : Int) < (i : Int)) = false := decide_eq_false kj0
                        have kjn : ¬ 0 < i := by omega
                        have kjm : decide (0 < i) = false := decide_eq_false kjn
                        clear h0
                        go_upto_region 6 with fail
                        refine wp_region_quiet_grown (by assumption) (by kernel_rfl) ?_
                        repeat (first | go_big_quiet_skip | go_big_quiet_step (first | (go_at_call 32; refine Calls.grown_of (g1 _)) | (go_at_call 21; refine Calls.grown_of (g2 _)) | (go_at_call 33; refine Calls.grown_of (g3 _))))
                        refine wpQuiet_nil ?_
                        rintro _ ⟨⟨nq, osq⟩, rfl⟩
                        go_wp2
                        refine ⟨⟨i + 1, by go_num, HLT.out, fun j hj hji => ?_, hg.trans ⟨nq, osq, rfl⟩⟩, by simp [intOf]; have := HLT.out; omega⟩
                        rcases Nat.lt_or_ge j i with h | h
                        · exact HO.out j hj h
                        · obtain rfl : j = i := by omega
                          rw [HX.out]; exact HOK.out
                      · obtain ⟨j, hj⟩ : ∃ j, i = j + 1 := ⟨i - 1, by omega⟩
                        have hjl : j < x.T.length := by omega
                        obtain ⟨bb, oo, ee, f0, f1, f2⟩ := HSr.at_ j hjl
                        injection ee with ee
                        injection ee with eb eo
                        subst eb eo
                        have r0 : ∀ n os, (Go.Sort.grow (wr.drewN n) os).cell? ⟨b, o + j * 3, none⟩ = some (.int .i64 x.T[j].1.1) := cell_grown hblt f0
                        have r1 : ∀ n os, (Go.Sort.grow (wr.drewN n) os).cell? ⟨b, o + j * 3 + 1, none⟩ = some (.int .u64 (x.T[j].1.2 : Int)) := cell_grown hblt f1
                        have g3 := fun W => rless_any x.T[j].1 t.1 W
                        have HLA := Lib.hid (lastD_next x.T j hjl)
                        generalize x.T[j] = s at r0 r1 g3 HLA
                        have kj : IntKind.i64.wrap ((i : Int) - 1) = (j : Int) := by rw [IntKind.wrap_i64] <;> omega
                        have kj0 : (0 : Int) < (i : Int) := by omega
                        have kjd : decide ((0 : Int) < (i : Int)) = true := decide_eq_true kj0
                        have hji : (j : Int) < (x.T.length : Int) := by omega
                        have HJ := Lib.hid hj
                        clear hj f0 f1 f2
                        by_cases pl : Lt s.1 t.1
                        · rw [decide_eq_true pl] at g3
                          have HOK := Lib.hid (show OneOk x.T i t from ⟨PM.out, PN.out, by rw [HJ.out, HLA.out]; exact pl⟩)
                          clear pl
                          go_upto_region 6 with fail
                          refine wp_region_quiet_grown (by assumption) (by kernel_rfl) ?_
                          repeat (first | go_big_quiet_skip | go_big_quiet_step (first | (go_at_call 32; refine Calls.grown_of (g1 _)) | (go_at_call 21; refine Calls.grown_of (g2 _)) | (go_at_call 33; refine Calls.grown_of (g3 _))))
                          refine wpQuiet_nil ?_
                          rintro _ ⟨⟨nq, osq⟩, rfl⟩
                          go_wp2
                          refine ⟨⟨i + 1, by go_num, HLT.out, fun j hj hji => ?_, hg.trans ⟨nq, osq, rfl⟩⟩, by simp [intOf]; have := HLT.out; omega⟩
                          rcases Nat.lt_or_ge j i with h | h
                          · exact HO.out j hj h
                          · obtain rfl : j = i := by omega
                            rw [HX.out]; exact HOK.out
                        · rw [decide_eq_false pl] at g3
                          have PL := Lib.hid pl
                          clear pl
                          go_upto_region 6 with fail
                          refine wp_region_quiet_grown (by assumption) (by kernel_rfl) ?_
                          repeat (first | go_big_quiet_skip | go_big_quiet_step (first | (go_at_call 32; refine Calls.grown_of (g1 _)) | (go_at_call 21; refine Calls.grown_of (g2 _)) | (go_at_call 33; refine Calls.grown_of (g3 _))))
                          refine wpQuiet_nil ?_
                          rintro _ ⟨⟨nq, osq⟩, rfl⟩
                          go_wp2
                          go_ret
                          refine ⟨ret_bool (HE.out (fun h => ?_)).symm, hb0.trans (hg.trans ⟨nq, osq, rfl⟩)⟩
                          have h9 := h.2.2.2.2 i HLT.out
                          rw [HX.out] at h9
                          rw [HJ.out] at h9; exact PL.out (by rw [← HLA.out]; exact h9.2.2)
                  · rw [decide_eq_false pm] at g1
                    have PM := Lib.hid pm
                    clear pm
                    go_upto_region 6 with fail
                    refine wp_region_quiet_grown (by assumption) (by kernel_rfl) ?_
                    repeat (first | go_big_quiet_skip | go_big_quiet_step (first | (go_at_call 32; refine Calls.grown_of (g1 _)) | (go_at_call 21; refine Calls.grown_of (g2 _)) | (go_at_call 33; refine Calls.grown_of (g3 _))))
                    refine wpQuiet_nil ?_
                    rintro _ ⟨⟨nq, osq⟩, rfl⟩
                    go_wp2
                    go_ret
                    refine ⟨ret_bool (HE.out (fun h => ?_)).symm, hb0.trans (hg.trans ⟨nq, osq, rfl⟩)⟩
                    have h9 := h.2.2.2.2 i HLT.out
                    rw [HX.out] at h9
                    exact PM.out h9.1
                · obtain rfl : i = x.T.length := by omega
                  clear q4 c4
                  go_wp2
                  go_ret
                  exact ⟨ret_bool (HY.out.2 ⟨HPO.out, HN.out, HPP.out, HTT.out, fun j hj => HO.out j hj hj⟩).symm, hb0.trans hg⟩
            · have kt : (1024 : Int) < (x.T.length : Int) := by omega
              have ktd : decide ((1024 : Int) < (x.T.length : Int)) = true := decide_eq_true kt
              refine wp_region_quiet_grown (by assumption) (by kernel_rfl) ?_
              repeat (first | go_big_quiet_skip | (refine q_load (by rfl) 27 _ rfl w.heap.size 4 rfl (uqs x.V) _ hB.lt (ev_range hB hV) Try.underlying27 rfl (uqs_info hV) ?_; try simp only [Act.put, List.setIfInBounds_toArray, List.set_cons_zero, List.set_cons_succ]) | go_big_quiet_step (first | (go_at_call 32; refine Calls.grown_of (h1 _)) | (go_at_call 22; refine Calls.grown_of (h2 _)) | (go_at_call 21; refine Calls.grown_of (h3 _))))
              refine wpQuiet_nil ?_
              rintro _ ⟨⟨nq, osq⟩, rfl⟩
              go_wp2
              go_ret
              exact ⟨ret_bool (HE.out (fun h => ht h.2.2.2.1)).symm, hb0.trans ⟨nq, osq, rfl⟩⟩
          · have kp : (512 : Int) < (x.P.length : Int) := by omega
            have kpd : decide ((512 : Int) < (x.P.length : Int)) = true := decide_eq_true kp
            refine wp_region_quiet_grown (by assumption) (by kernel_rfl) ?_
            repeat (first | go_big_quiet_skip | (refine q_load (by rfl) 27 _ rfl w.heap.size 4 rfl (uqs x.V) _ hB.lt (ev_range hB hV) Try.underlying27 rfl (uqs_info hV) ?_; try simp only [Act.put, List.setIfInBounds_toArray, List.set_cons_zero, List.set_cons_succ]) | go_big_quiet_step (first | (go_at_call 32; refine Calls.grown_of (h1 _)) | (go_at_call 22; refine Calls.grown_of (h2 _)) | (go_at_call 21; refine Calls.grown_of (h3 _))))
            refine wpQuiet_nil ?_
            rintro _ ⟨⟨nq, osq⟩, rfl⟩
            go_wp2
            go_ret
            exact ⟨ret_bool (HE.out (fun h => hp h.2.2.1)).symm, hb0.trans ⟨nq, osq, rfl⟩⟩
      · have k1 : ((m : Int) + 1 != (x.id.2 : Int)) = true := by rw [bne_iff_ne]; omega
        have HC := Lib.hid hc
        clear hc
        refine wp_region_quiet_grown (by assumption) (by kernel_rfl) ?_
        repeat (first | go_big_quiet_skip | (refine q_load (by rfl) 27 _ rfl w.heap.size 4 rfl (uqs x.V) _ hB.lt (ev_range hB hV) Try.underlying27 rfl (uqs_info hV) ?_; try simp only [Act.put, List.setIfInBounds_toArray, List.set_cons_zero, List.set_cons_succ]) | go_big_quiet_step (first | (go_at_call 32; refine Calls.grown_of (h1 _)) | (go_at_call 22; refine Calls.grown_of (h2 _)) | (go_at_call 21; refine Calls.grown_of (h3 _))))
        refine wpQuiet_nil ?_
        rintro _ ⟨⟨nq, osq⟩, rfl⟩
        go_wp2
        go_ret
        exact ⟨ret_bool (HE.out (fun h => HC.out (by rw [← HAT.out]; exact h.1.2.1))).symm, hb0.trans ⟨nq, osq, rfl⟩⟩
    · rw [decide_eq_false hL] at h2
      have HL := Lib.hid hL
      clear hL
      refine wp_region_quiet_grown (by assumption) (by kernel_rfl) ?_
      repeat (first | go_big_quiet_skip | (refine q_load (by rfl) 27 _ rfl w.heap.size 4 rfl (uqs x.V) _ hB.lt (ev_range hB hV) Try.underlying27 rfl (uqs_info hV) ?_; try simp only [Act.put, List.setIfInBounds_toArray, List.set_cons_zero, List.set_cons_succ]) | go_big_quiet_step (first | (go_at_call 32; refine Calls.grown_of (h1 _)) | (go_at_call 22; refine Calls.grown_of (h2 _)) | (go_at_call 21; refine Calls.grown_of (h3 _))))
      refine wpQuiet_nil ?_
      rintro _ ⟨⟨nq, osq⟩, rfl⟩
      go_wp2
      go_ret
      exact ⟨ret_bool (HE.out (fun h => HL.out h.1.2.2)).symm, hb0.trans ⟨nq, osq, rfl⟩⟩
  · rw [decide_eq_false hM] at h1
    clear hpl hto
    refine wp_region_quiet_grown (by assumption) (by kernel_rfl) ?_
    repeat (first | go_big_quiet_skip | (refine q_load (by rfl) 27 _ rfl w.heap.size 4 rfl (uqs x.V) _ hB.lt (ev_range hB hV) Try.underlying27 rfl (uqs_info hV) ?_; try simp only [Act.put, List.setIfInBounds_toArray, List.set_cons_zero, List.set_cons_succ]) | go_big_quiet_step (first | (go_at_call 32; refine Calls.grown_of (h1 _)) | (go_at_call 22; refine Calls.grown_of (h2 _)) | (go_at_call 21; refine Calls.grown_of (h3 _))))
    refine wpQuiet_nil ?_
    rintro _ ⟨⟨nq, osq⟩, rfl⟩
    go_wp2
    go_ret
    exact ⟨ret_bool (HE.out (fun h => hM h.1.1)).symm, hb0.trans ⟨nq, osq, rfl⟩⟩
end Go.Proofs.Ytigepbklpiilpaa

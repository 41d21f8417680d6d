/-
  NetDoubles: a flight that is doubled is there once more, the last of its line; taken away, all is as it was.
-/
import Derived.Test.YtellbmghahgjfaaNfM
import Derived.Test.YtellbmghahgjfaaNetZ
namespace Go.Proofs.Ytellbmghahgjfaa
open Go.RowKit Go.Maps
open NetM
set_option linter.unusedVariables false
set_option linter.unusedSimpArgs false
set_option maxRecDepth 20000
theorem pv_sorted {V R : List (Fl Pl)} (h : pv V = pv R) (hs : Sorted V) : Sorted R := by
  have h1 : ∀ L : List (Fl Pl), Sorted L ↔ Sorted (pv L) := fun L => by unfold Sorted pv mapX; rw [List.pairwise_map]
  rw [h1, ← h, ← h1]; exact hs
theorem pv_spot {V R : List (Fl Pl)} (h : pv V = pv R) (q : Pr) : spotOf V q = spotOf R q := by
  have := congrArg (fun L => spotOf L q) h
  simpa [pv, mapX_spot] using this
theorem Two.sorted {B : Nat} {W : World} {p b x : Nat} {E lv lr : Int} {V R : List (Fl Pl)} (h : Two B W p b x E lv V lr R) : Sorted V := by
  obtain ⟨K, G, hn, hG⟩ := h.nt
  exact hn.sorted
set_option maxHeartbeats 16000000 in
theorem netDoubles_any (v : Value) (L : List NA.St) (pl : Int) (w : World) (hs : NA.Sts w v L) (hpl1 : -9223372036854775808 ≤ pl) (hpl2 : pl ≤ 9223372036854775807) :
    Calls Try.prog 8 #[v, .int .i64 pl] w fun e w' => e = .returned (.bool true) ∧ Below w.heap.size w w' := by
  have hfo : Try.prog.follows .mixedOrders = true := by kernel_rfl
  have hmu := NA.much_any v L w hs
  obtain ⟨A, c, rfl, hc, ha⟩ := hs
  have Ha := Lib.hid ha
  clear ha
  go_enter Try.func8, Try.ntmps8
  go_upto_region 1 with fail
  go_upto_region 3 with (go_at_call 12; refine hmu.mono ?_; rintro e w1 ⟨r, rfl, rfl, hfew⟩; cases r)
  rotate_left
  · go_wp2_with (go_at_call 11; refine (nknown_any _).mono ?_; rintro e w2 ⟨rfl, hb⟩)
    go_ret
    exact ⟨rfl, hb⟩
  have hF := hfew trivial
  have hF60 := hF.len
  have HFB := Lib.hid hF.b
  clear hfew hmu
  go_upto_region 4 with (go_at_call 9; refine (new_any 4 (by decide) (by decide) _).mono ?_; rintro e w1 ⟨p, b, rfl, hN, hb1, hp, hbb⟩)
  have hM0 := two_new hN hb1 hp hbb
  have hB0 := hb1.alloc hb1.size (.cells #[.slice none 0 0, .int .i64 4, .int .i64 0] 33)
  obtain ⟨x, hx⟩ : ∃ x, w1.heap.size = x := ⟨_, rfl⟩
  clear hN hb1 hp hbb
  go_upto_region 5 with fail
  rw [hx] at hM0
  try rw [hx]
  generalize w1.alloc (.cells #[.slice none 0 0, .int .i64 4, .int .i64 0] 33) = W at hM0 hB0 ⊢
  clear hx
  go_upto_region 7 with (go_at_call 10; refine (num_any _ _).mono ?_; rintro e w2 ⟨rfl, hwd⟩; obtain rfl := hwd.symm)
  go_wp2
  go_loopw [8] (fun z wr => ∃ (k : Nat) (lv : Int) (V R : List (Fl Pl)), k ≤ L.length ∧ z = .int .i64 (k : Int) ∧ lv ≤ 70 * (k : Int) ∧ Below w.heap.size w wr ∧ Two w.heap.size wr p b x 4 lv V lv R ∧ Hid (pv V = pv R)) (fun z _ => L.length - (intOf z).toNat)
  case atStart => exact ⟨0, 0, [], [], Nat.zero_le _, rfl, by omega, hB0, hM0, Lib.hid rfl⟩
  case round =>
    obtain ⟨k, lv, V, R, hk, rfl, hlv, hb, hM, he⟩ := hrel
    clear hM0 hB0
    have hkM : (k : Int) ≤ 60 := by omega
    by_cases hlt : k < L.length
    · obtain ⟨bb, o, rfl, h0, hcs⟩ := act_at Ha.out k hlt
      obtain ⟨c0, c1, c2, c3⟩ := hcs wr hb
      have hkI : (k : Int) < (L.length : Int) := by omega
      have HDO := Lib.hid (do_any hb hM he.out (by omega) L[k] h0 (HFB.out _ (List.getElem_mem hlt)))
      clear h0 hcs
      generalize L[k] = s at HDO c0 c1 c2 c3
      obtain ⟨kd, sx, sy, sb, sbv⟩ := s
      simp only at HDO c0 c1 c2 c3
      go_wp2_with (go_at_call 15; refine HDO.out.mono ?_; rintro e Z ⟨rfl, hkZ, lv1, V1, R1, hl1, hT1, he1⟩)
      go_roundw
      case rel => exact ⟨k + 1, lv1, V1, R1, by omega, by go_num, by omega, Keep.below hb hkZ hb.size hM.ge3, hT1, Lib.hid he1⟩
      case measure => simp [intOf]; omega
    · obtain rfl : k = L.length := by omega
      clear hlt hk
      have HM := Lib.hid hM
      have HB := Lib.hid hb
      have HE := Lib.hid he
      clear hM hb hlv he
      generalize wr = W5 at HM HB ⊢
      have HAT := Lib.hid (two_at HM.out pl hpl2)
      have hV16 := HM.out.few
      obtain ⟨hin, hfull⟩ := HM.out.inr
      have HIN := Lib.hid hin
      have HFU := Lib.hid hfull
      clear hin hfull
      go_upto_region 13 with (go_at_call 18; refine HAT.out.mono ?_; rintro e X ⟨n1, q, t0, t1, t2, l, rfl, k1, hs1, hty1, hbX, V0, hTR⟩)
      have hal : Below X.heap.size X (X.alloc (.cells #[.int .i64 q.1, .int .i64 q.2, .slice t0 t1 t2] 44)) := (Below.refl _ _).alloc (Nat.le_refl _) _
      have hx1 : Blk (X.alloc (.cells #[.int .i64 q.1, .int .i64 q.2, .slice t0 t1 t2] 44)) X.heap.size 44 #[.int .i64 q.1, .int .i64 q.2, .slice t0 t1 t2] := Blk.new X _ _
      have hb51 := hbX.trans (hal.mono hbX.size)
      have hsX := hs1.below hal
      have htX : ∀ i, InB (t0, t1, t2) i → ∃ cs m, (X.alloc (.cells #[.int .i64 q.1, .int .i64 q.2, .slice t0 t1 t2] 44)).heap[i]? = some (.cells cs 5 m) := fun i hi => by
        obtain ⟨cs, m, hh⟩ := hty1 i hi
        exact ⟨cs, m, (hal.block i (Array.getElem?_eq_some_iff.1 hh).1).trans hh⟩
      have hg9 : ¬ Of3 p b x X.heap.size := fun ho => by have := HM.out.lt3 _ ho; have := hbX.size; omega
      obtain ⟨g9, hgg⟩ : ∃ z, X.heap.size = z := ⟨_, rfl⟩
      rw [hgg] at hx1 hg9
      rw [hgg]
      generalize X.alloc (.cells #[.int .i64 q.1, .int .i64 q.2, .slice t0 t1 t2] 44) = X1 at hx1 hb51 hsX htX ⊢
      clear hgg hal hbX k1 hs1 hty1 HAT
      have hM1 := HM.out.below hb51
      have hqo : OkP q := by
        rcases hTR with ⟨_, rfl, _⟩ | ⟨i, hi, _, _, rfl, _⟩
        · unfold OkP; decide
        · have := HIN.out _ (List.getElem_mem hi)
          unfold InR at this
          unfold OkP
          omega
      obtain ⟨m, hm⟩ : ∃ m, (lineOf V q).length = m := ⟨_, rfl⟩
      have HLN := Lib.hid (hm ▸ two_line hM1 q hqo)
      have HM6 := Lib.hid hm
      have z0 : X1.cell? ⟨g9, 0, none⟩ = some (.int .i64 q.1) := by rw [hx1.cell]; rfl
      have z1 : X1.cell? ⟨g9, 1, none⟩ = some (.int .i64 q.2) := by rw [hx1.cell]; rfl
      clear hm
      go_upto_region 14 with (go_at_call 23; refine HLN.out.mono ?_; rintro e W6 ⟨rfl, hb6⟩)
      have hM6 := hM1.below hb6
      have hb56 := hb51.trans (hb6.mono hb51.size)
      have hw6 := HB.out.trans (hb56.mono HB.out.size)
      have hx6 := hx1.below hb6 hx1.lt
      have hs6 := hsX.below hb6
      have ht6 : ∀ i, InB (t0, t1, t2) i → ¬ Of3 p b x i := fun i hi ho => by
        obtain ⟨cs, mm, hh⟩ := htX i hi
        exact (hM6.off i ho _ _ _ ((hb6.block i (Array.getElem?_eq_some_iff.1 hh).1).trans hh)).2.1 rfl
      have HDB := Lib.hid (two_double hM6 hw6.size pl hpl2)
      clear z0 z1 HLN hM1 hx1 hsX htX
      go_upto_region 15 with (go_at_call 21; refine HDB.out.mono ?_; rintro e W7 ⟨n2, rfl, k7, V2, hT7, hR7⟩)
      have hw7 := Keep.below hw6 k7 hw6.size hM6.ge3
      have hx7 := hx6.kept k7 hg9
      have hs7 := InB.sl (s := (t0, t1, t2)) hs6 k7 ht6
      clear hx6 hs6 HDB
      rcases hTR with ⟨hc, rfl, rfl, _⟩ | ⟨i, hi, rfl, rfl, rfl, rfl, _⟩
      · have hn12 : n2 = n1 ∧ V2 = V := by
          rcases hR7 with ⟨kc, rfl⟩ | ⟨j, hj, kz, _⟩
          · exact ⟨by omega, rfl⟩
          · omega
        obtain ⟨rfl, rfl⟩ := hn12
        have hc1 : (n2 != 0) = true := by rcases hc with ⟨_, rfl⟩ | ⟨_, rfl⟩ <;> rfl
        have hc2 : (n2 == n2) = true := by simp
        have HON := Lib.hid (once_any hT7 HE.out 0)
        clear hc hR7
        go_wp2_with (first | (go_at_call 10; refine (num_any _ _).mono ?_; rintro e w2 ⟨rfl, hwd⟩; obtain rfl := hwd.symm) | (go_at_call 27; refine HON.out.mono ?_; rintro e Z ⟨rfl, hbZ⟩) | (go_at_call 11; refine (nknown_any _).mono ?_; rintro e Z3 ⟨rfl, hb3⟩))
        go_ret
        exact ⟨by simp, (hw7.trans (hbZ.mono hw7.size)).trans (hb3.mono (hw7.trans (hbZ.mono hw7.size)).size)⟩
      rcases hR7 with ⟨kc, _⟩ | ⟨i', hi', kz, hR7⟩
      · omega
      obtain rfl : i = i' := by omega
      clear kz
      have hm6 := HM6.out
      obtain ⟨q, hq⟩ : ∃ q, V[i].p = q := ⟨_, rfl⟩
      obtain ⟨l, hl⟩ : ∃ l, V[i].x.2 = l := ⟨_, rfl⟩
      simp only [hq] at hm6 hqo hx7 hR7 ⊢
      simp only [hl] at hs7 hR7
      clear HM6
      rw [hm6] at hR7
      rcases hR7 with ⟨h64, rfl, rfl⟩ | ⟨h64, rfl, s', rfl⟩
      · have hm64 : m = 64 := by have := HFU.out q; omega
        have hmb : ((m : Int) == 64) = true := by simp [hm64]
        have HON := Lib.hid (once_any hT7 HE.out 0)
        clear h64 hm64 hm6 hq hl
        go_wp2_with (first | (go_at_call 10; refine (num_any _ _).mono ?_; rintro e w2 ⟨rfl, hwd⟩; obtain rfl := hwd.symm) | (go_at_call 27; refine HON.out.mono ?_; rintro e Z ⟨rfl, hbZ⟩) | (go_at_call 11; refine (nknown_any _).mono ?_; rintro e Z3 ⟨rfl, hb3⟩))
        go_ret
        exact ⟨by simp, (hw7.trans (hbZ.mono hw7.size)).trans (hb3.mono (hw7.trans (hbZ.mono hw7.size)).size)⟩
      · have hRV := Lib.hid (pv_lens HE.out)
        have HLEN := Lib.hid (show ∀ Y, Below W7.heap.size W7 Y → Calls Try.prog 20 #[.pointer (some ⟨p, 0, none⟩)] Y fun e W' => e = .returned (.int .i64 ((R.length : Int) + 1)) ∧ Below Y.heap.size Y W' from fun Y hY => by
          have := two_len (hT7.below hY)
          rw [lay_len] at this
          rw [show ((V.length + 1 : Nat) : Int) = (R.length : Int) + 1 by have := hRV.out; omega] at this
          exact this)
        have HLN2 := Lib.hid (show ∀ Y, Below W7.heap.size W7 Y → Calls Try.prog 23 #[.pointer (some ⟨p, 0, none⟩), .int .i64 q.1, .int .i64 q.2] Y fun e W' => e = .returned (.int .i64 ((m : Int) + 1)) ∧ Below Y.heap.size Y W' from fun Y hY => by
          have := two_line (hT7.below hY) q hqo
          rw [lay_line HM.out.sorted, if_pos rfl, List.length_append, hm6] at this
          exact this)
        obtain ⟨s, hr⟩ := hT7.rf
        obtain ⟨A6, c6, rfl⟩ := hr.shape
        have HR7 := Lib.hid hr
        have HT7 := Lib.hid hT7
        have HX7 := Lib.hid (And.intro hx7 hs7)
        have HCX := Lib.hid (show ∀ Y, Below W7.heap.size W7 Y → Y.cell? ⟨g9, 0, none⟩ = some (.int .i64 q.1) ∧ Y.cell? ⟨g9, 1, none⟩ = some (.int .i64 q.2) ∧ Y.cell? ⟨x, 0, none⟩ = some (.slice A6 R.length c6) from fun Y hY => by
          have hf := HX7.out.1.below hY HX7.out.1.lt
          exact ⟨by rw [hf.cell]; rfl, by rw [hf.cell]; rfl, (HR7.out.below hY).c0⟩)
        have hmI : (m : Int) ≤ 64 := by omega
        have hRI : (R.length : Int) ≤ 16384 := by have := hRV.out; omega
        have HSR := Lib.hid (pv_sorted HE.out HM.out.sorted)
        have hwr1 : IntKind.i64.wrap ((R.length : Int) + 1) = (R.length : Int) + 1 := by rw [IntKind.wrap_i64] <;> omega
        have hwr2 : IntKind.i64.wrap ((m : Int) + 1) = (m : Int) + 1 := by rw [IntKind.wrap_i64] <;> omega
        have hnn : (((R.length : Int) + 1) != ((R.length : Int) + 1)) = false := by simp
        have hmm : (((m : Int) + 1) != ((m : Int) + 1)) = false := by simp
        clear hT7 hx7 hs7 hr hq hl hm6 h64 hqo
        go_upto_region 17 with (go_at_call 10; refine (num_any _ _).mono ?_; rintro e w2 ⟨rfl, hwd⟩; obtain rfl := hwd.symm)
        refine wp_region_held_drew (S := fun Z => Below W7.heap.size W7 Z) hfo ((Below.refl _ _).drew) (fun hS0 => ?_)
        generalize W7.drew = Z0 at hS0 ⊢
        refine' wpAnyH_take (i := 0) (oi := ⟨some 97, _, _, _, _, _⟩) (v := _) rfl (by kernel_rfl) (by kernel_rfl) (by kernel_rfl) (fun _ _ _ h => h) (Or.inl ⟨by rfl, ?y0p⟩) hS0 ?r0p
        case y0p =>
          intro w' hSw
          obtain ⟨a0, a1, e0⟩ := HCX.out _ hSw
          go_simp
          try simp only [hwr1, hwr2, hnn, hmm]
          try rfl
        try simp only [Act.put, List.setIfInBounds_toArray, List.set_cons_zero, List.set_cons_succ]
        refine' wpAnyH_take (i := 2) (oi := ⟨some 99, _, _, _, _, _⟩) (v := _) rfl (by kernel_rfl) (by kernel_rfl) (by kernel_rfl) (fun _ _ _ h => h) (Or.inl ⟨by rfl, ?y2p⟩) hS0 ?r2p
        case y2p =>
          intro w' hSw
          obtain ⟨a0, a1, e0⟩ := HCX.out _ hSw
          go_simp
          try simp only [hwr1, hwr2, hnn, hmm]
          try rfl
        try simp only [Act.put, List.setIfInBounds_toArray, List.set_cons_zero, List.set_cons_succ]
        refine' wpAnyH_take (i := 3) (oi := ⟨some 100, _, _, _, _, _⟩) (v := _) rfl (by kernel_rfl) (by kernel_rfl) (by kernel_rfl) (fun _ _ _ h => h) (Or.inl ⟨by rfl, ?y3p⟩) hS0 ?r3p
        case y3p =>
          intro w' hSw
          obtain ⟨a0, a1, e0⟩ := HCX.out _ hSw
          go_simp
          try simp only [hwr1, hwr2, hnn, hmm]
          try rfl
        try simp only [Act.put, List.setIfInBounds_toArray, List.set_cons_zero, List.set_cons_succ]
        refine' wpAnyH_take (i := 4) (oi := ⟨some 101, _, _, _, _, _⟩) (v := _) rfl (by kernel_rfl) (by kernel_rfl) (by kernel_rfl) (fun _ _ _ h => h) (Or.inl ⟨by rfl, ?y4p⟩) hS0 ?r4p
        case y4p =>
          intro w' hSw
          obtain ⟨a0, a1, e0⟩ := HCX.out _ hSw
          go_simp
          try simp only [hwr1, hwr2, hnn, hmm]
          try rfl
        try simp only [Act.put, List.setIfInBounds_toArray, List.set_cons_zero, List.set_cons_succ]
        refine' wpAnyH_take (i := 5) (oi := ⟨some 102, _, _, _, _, _⟩) (v := _) rfl (by kernel_rfl) (by kernel_rfl) (by kernel_rfl) (fun _ _ _ h => h) (Or.inl ⟨by rfl, ?y5p⟩) hS0 ?r5p
        case y5p =>
          intro w' hSw
          obtain ⟨a0, a1, e0⟩ := HCX.out _ hSw
          go_simp
          try simp only [hwr1, hwr2, hnn, hmm]
          try rfl
        try simp only [Act.put, List.setIfInBounds_toArray, List.set_cons_zero, List.set_cons_succ]
        refine' wpAnyH_take (i := 6) (oi := ⟨some 103, _, _, _, _, _⟩) (v := _) rfl (by kernel_rfl) (by kernel_rfl) (by kernel_rfl) (fun _ _ _ h => h) (Or.inl ⟨by rfl, ?y6p⟩) hS0 ?r6p
        case y6p =>
          intro w' hSw
          obtain ⟨a0, a1, e0⟩ := HCX.out _ hSw
          go_simp
          try simp only [hwr1, hwr2, hnn, hmm]
          try rfl
        try simp only [Act.put, List.setIfInBounds_toArray, List.set_cons_zero, List.set_cons_succ]
        refine' wpAnyH_take (i := 7) (oi := ⟨some 104, _, _, _, _, _⟩) (v := (.int .i64 ((R.length : Int) + 1))) rfl (by kernel_rfl) (by kernel_rfl) (by kernel_rfl) (fun _ _ _ h => h) (Or.inl ⟨by rfl, ?y7p⟩) hS0 ?r7p
        case y7p =>
          intro w' hSw
          obtain ⟨a0, a1, e0⟩ := HCX.out _ hSw
          go_simp
          try simp only [hwr1, hwr2, hnn, hmm]
          try rfl
        try simp only [Act.put, List.setIfInBounds_toArray, List.set_cons_zero, List.set_cons_succ]
        refine held_one (i := 1) (by kernel_rfl) rfl (fun Kc hK => ?_)
        refine held_wanted' rfl (by rfl) ?_
        go_simp
        refine (HLEN.out _ hS0).mono ?_
        rintro e Z1 ⟨rfl, hb1⟩
        have hS1 := hS0.trans (hb1.mono hS0.size)
        refine hK.out _ _ hS1 (fun _ => ?_)
        clear hK Kc
        try simp only [Act.put, List.setIfInBounds_toArray, List.set_cons_zero, List.set_cons_succ]
        refine' wpAnyH_take (i := 8) (oi := ⟨some 105, _, _, _, _, _⟩) (v := (.bool false)) rfl (by kernel_rfl) (by kernel_rfl) (by kernel_rfl) (fun _ _ _ h => h) (Or.inl ⟨by rfl, ?y8p⟩) hS1 ?r8p
        case y8p =>
          intro w' hSw
          obtain ⟨a0, a1, e0⟩ := HCX.out _ hSw
          go_simp
          try simp only [hwr1, hwr2, hnn, hmm]
          try rfl
        try simp only [Act.put, List.setIfInBounds_toArray, List.set_cons_zero, List.set_cons_succ]
        refine' wpAnyH_take (i := 9) (oi := ⟨some 106, _, _, _, _, _⟩) (v := (.bool false)) rfl (by kernel_rfl) (by kernel_rfl) (by kernel_rfl) (fun _ _ _ h => h) (Or.inl ⟨by rfl, ?y9p⟩) hS1 ?r9p
        case y9p =>
          intro w' hSw
          obtain ⟨a0, a1, e0⟩ := HCX.out _ hSw
          go_simp
          try simp only [hwr1, hwr2, hnn, hmm]
          try rfl
        try simp only [Act.put, List.setIfInBounds_toArray, List.set_cons_zero, List.set_cons_succ]
        refine' wpAnyH_take (i := 10) (oi := ⟨some 107, _, _, _, _, _⟩) (v := _) rfl (by kernel_rfl) (by kernel_rfl) (by kernel_rfl) (fun _ _ _ h => h) (Or.inl ⟨by rfl, ?y10p⟩) hS1 ?r10p
        case y10p =>
          intro w' hSw
          obtain ⟨a0, a1, e0⟩ := HCX.out _ hSw
          go_simp
          try simp only [hwr1, hwr2, hnn, hmm]
          try rfl
        try simp only [Act.put, List.setIfInBounds_toArray, List.set_cons_zero, List.set_cons_succ]
        refine' wpAnyH_take (i := 11) (oi := ⟨some 108, _, _, _, _, _⟩) (v := _) rfl (by kernel_rfl) (by kernel_rfl) (by kernel_rfl) (fun _ _ _ h => h) (Or.inl ⟨by rfl, ?y11p⟩) hS1 ?r11p
        case y11p =>
          intro w' hSw
          obtain ⟨a0, a1, e0⟩ := HCX.out _ hSw
          go_simp
          try simp only [hwr1, hwr2, hnn, hmm]
          try rfl
        try simp only [Act.put, List.setIfInBounds_toArray, List.set_cons_zero, List.set_cons_succ]
        refine' wpAnyH_take (i := 12) (oi := ⟨some 109, _, _, _, _, _⟩) (v := _) rfl (by kernel_rfl) (by kernel_rfl) (by kernel_rfl) (fun _ _ _ h => h) (Or.inl ⟨by rfl, ?y12p⟩) hS1 ?r12p
        case y12p =>
          intro w' hSw
          obtain ⟨a0, a1, e0⟩ := HCX.out _ hSw
          go_simp
          try simp only [hwr1, hwr2, hnn, hmm]
          try rfl
        try simp only [Act.put, List.setIfInBounds_toArray, List.set_cons_zero, List.set_cons_succ]
        refine' wpAnyH_take (i := 13) (oi := ⟨some 110, _, _, _, _, _⟩) (v := _) rfl (by kernel_rfl) (by kernel_rfl) (by kernel_rfl) (fun _ _ _ h => h) (Or.inl ⟨by rfl, ?y13p⟩) hS1 ?r13p
        case y13p =>
          intro w' hSw
          obtain ⟨a0, a1, e0⟩ := HCX.out _ hSw
          go_simp
          try simp only [hwr1, hwr2, hnn, hmm]
          try rfl
        try simp only [Act.put, List.setIfInBounds_toArray, List.set_cons_zero, List.set_cons_succ]
        refine' wpAnyH_take (i := 14) (oi := ⟨some 111, _, _, _, _, _⟩) (v := _) rfl (by kernel_rfl) (by kernel_rfl) (by kernel_rfl) (fun _ _ _ h => h) (Or.inl ⟨by rfl, ?y14p⟩) hS1 ?r14p
        case y14p =>
          intro w' hSw
          obtain ⟨a0, a1, e0⟩ := HCX.out _ hSw
          go_simp
          try simp only [hwr1, hwr2, hnn, hmm]
          try rfl
        try simp only [Act.put, List.setIfInBounds_toArray, List.set_cons_zero, List.set_cons_succ]
        refine' wpAnyH_take (i := 16) (oi := ⟨some 113, _, _, _, _, _⟩) (v := _) rfl (by kernel_rfl) (by kernel_rfl) (by kernel_rfl) (fun _ _ _ h => h) (Or.inl ⟨by rfl, ?y16p⟩) hS1 ?r16p
        case y16p =>
          intro w' hSw
          obtain ⟨a0, a1, e0⟩ := HCX.out _ hSw
          go_simp
          try simp only [hwr1, hwr2, hnn, hmm]
          try rfl
        try simp only [Act.put, List.setIfInBounds_toArray, List.set_cons_zero, List.set_cons_succ]
        refine' wpAnyH_take (i := 17) (oi := ⟨some 114, _, _, _, _, _⟩) (v := (.int .i64 ((m : Int) + 1))) rfl (by kernel_rfl) (by kernel_rfl) (by kernel_rfl) (fun _ _ _ h => h) (Or.inl ⟨by rfl, ?y17p⟩) hS1 ?r17p
        case y17p =>
          intro w' hSw
          obtain ⟨a0, a1, e0⟩ := HCX.out _ hSw
          go_simp
          try simp only [hwr1, hwr2, hnn, hmm]
          try rfl
        try simp only [Act.put, List.setIfInBounds_toArray, List.set_cons_zero, List.set_cons_succ]
        refine held_one (i := 15) (by kernel_rfl) rfl (fun Kc hK => ?_)
        refine held_wanted' rfl (by rfl) ?_
        go_simp
        refine (HLN2.out _ hS1).mono ?_
        rintro e Z2 ⟨rfl, hb2⟩
        have hS2 := hS1.trans (hb2.mono hS1.size)
        refine hK.out _ _ hS2 (fun _ => ?_)
        clear hK Kc
        try simp only [Act.put, List.setIfInBounds_toArray, List.set_cons_zero, List.set_cons_succ]
        refine' wpAnyH_take (i := 18) (oi := ⟨some 115, _, _, _, _, _⟩) (v := (.bool false)) rfl (by kernel_rfl) (by kernel_rfl) (by kernel_rfl) (fun _ _ _ h => h) (Or.inl ⟨by rfl, ?y18p⟩) hS2 ?r18p
        case y18p =>
          intro w' hSw
          obtain ⟨a0, a1, e0⟩ := HCX.out _ hSw
          go_simp
          try simp only [hwr1, hwr2, hnn, hmm]
          try rfl
        try simp only [Act.put, List.setIfInBounds_toArray, List.set_cons_zero, List.set_cons_succ]
        refine' wpAnyH_take (i := 19) (oi := ⟨some 116, _, _, _, _, _⟩) (v := (.bool false)) rfl (by kernel_rfl) (by kernel_rfl) (by kernel_rfl) (fun _ _ _ h => h) (Or.inl ⟨by rfl, ?y19p⟩) hS2 ?r19p
        case y19p =>
          intro w' hSw
          obtain ⟨a0, a1, e0⟩ := HCX.out _ hSw
          go_simp
          try simp only [hwr1, hwr2, hnn, hmm]
          try rfl
        try simp only [Act.put, List.setIfInBounds_toArray, List.set_cons_zero, List.set_cons_succ]
        refine wpAnyH_done (by kernel_rfl) ?_ _
        have hZ2 := hS2
        clear hwr1 hwr2 hnn hmm HLEN HLN2 hS0 hS1 hb1 hb2
        go_wp2
        go_loopw [13, 14] (fun f z wx => ∃ k2 f2 : Nat, k2 ≤ R.length ∧ z = .int .i64 (k2 : Int) ∧ f = .int .i64 (f2 : Int) ∧ Below Z2.heap.size Z2 wx ∧ f2 ≤ k2 ∧ Hid ((∀ j (h : j < R.length), j < f2 → Le R[j].p q) ∧ ∀ j (h : j < R.length), f2 ≤ j → j < k2 → ¬ Le R[j].p q)) (fun _ z _ => R.length - (intOf z).toNat)
        case atStart => exact ⟨0, 0, Nat.zero_le _, rfl, rfl, Below.refl _ _, Nat.le_refl _, Lib.hid ⟨fun j _ h => absurd h (by omega), fun j _ _ h => absurd h (by omega)⟩⟩
        case round =>
          obtain ⟨k2, f2, hk2, rfl, rfl, hbr, hfk, hah⟩ := hrel
          have hkM : (k2 : Int) ≤ 16384 := by omega
          have hk0 : (0 : Int) ≤ (k2 : Int) := by omega
          have hcx := (HCX.out wr (hZ2.trans (hbr.mono hZ2.size))).2.2
          by_cases hlt2 : k2 < R.length
          · obtain ⟨u, hu⟩ : ∃ u, R[k2].p = u := ⟨_, rfl⟩
            have HU := Lib.hid hu
            obtain ⟨⟨bs, os, rfl⟩, hcap⟩ := HR7.out.row1 (by omega)
            have HD := Lib.hid (show ∀ Z, Below Z2.heap.size Z2 Z → Z.cell? ⟨bs, os + k2 * 3, none⟩ = some (.int .i64 u.1) ∧ Z.cell? ⟨bs, os + k2 * 3 + 1, none⟩ = some (.int .i64 u.2) ∧ Z.cell? ⟨bs, os + k2 * 3 + 2, none⟩ = some (sv R[k2].x.1) from fun Z hZ => hu ▸ HR7.out.cells Z (hZ2.trans (hZ.mono hZ2.size)) k2 hlt2)
            clear hu
            have hkI : (k2 : Int) < (R.length : Int) := by omega
            have HYES := Lib.hid (show Le u q → (∀ j (h : j < R.length), j < k2 + 1 → Le R[j].p q) ∧ ∀ j (h : j < R.length), k2 + 1 ≤ j → j < k2 + 1 → ¬ Le R[j].p q from fun hle => ⟨fun j h hj => by
              rcases Nat.lt_or_ge j k2 with h1 | h1
              · exact (sorted_at HSR.out h1 hlt2).trans (by rw [HU.out]; exact hle)
              · obtain rfl : j = k2 := by omega
                rw [HU.out]; exact hle, fun j _ h1 h2 => absurd h1 (by omega)⟩)
            have HNO := Lib.hid (show ¬ Le u q → (∀ j (h : j < R.length), j < f2 → Le R[j].p q) ∧ ∀ j (h : j < R.length), f2 ≤ j → j < k2 + 1 → ¬ Le R[j].p q from fun hle => ⟨hah.out.1, fun j h h1 h2 => by
              rcases Nat.lt_or_ge j k2 with h3 | h3
              · exact hah.out.2 j h h1 h3
              · obtain rfl : j = k2 := by omega
                rw [HU.out]; exact hle⟩)
            go_upto_region 23 with fail
            clear hcx
            rcases (show u.1 < q.1 ∨ (u.1 = q.1 ∧ u.2 ≤ q.2) ∨ (u.1 = q.1 ∧ ¬ u.2 ≤ q.2) ∨ (¬ u.1 < q.1 ∧ u.1 ≠ q.1) by omega) with e1 | ⟨e1, e2⟩ | ⟨e1, e2⟩ | ⟨e1, e2⟩
            · have HL := Lib.hid (show Le u q from Or.inl e1)
              have j1 : decide (u.1 < q.1) = true := decide_eq_true e1
              have j2 : True := trivial
              have j3 : True := trivial
              refine wp_region_held_drew (S := fun Z => Below Z2.heap.size Z2 Z) hfo (hbr.trans ((show Below wr.heap.size wr wr.drew from (Below.refl _ _).drew).mono hbr.size)) (fun hS0 => ?_)
              generalize wr.drew = wy at hS0 ⊢
              refine' wpAnyH_take (i := 0) (oi := ⟨some 126, _, _, _, _, _⟩) (v := _) rfl (by kernel_rfl) (by kernel_rfl) (by kernel_rfl) (fun _ _ _ h => h) (Or.inl ⟨by rfl, ?y0qB⟩) hS0 ?r0qB
              case y0qB =>
                intro w' hSw
                obtain ⟨a0, a1, e0⟩ := HCX.out _ (hZ2.trans (hSw.mono hZ2.size)); obtain ⟨d0, d1, d2⟩ := HD.out _ hSw
                go_simp
                try simp only [j1, j2, j3]
                try rfl
              try simp only [Act.put, List.setIfInBounds_toArray, List.set_cons_zero, List.set_cons_succ]
              refine' wpAnyH_take (i := 1) (oi := ⟨some 127, _, _, _, _, _⟩) (v := _) rfl (by kernel_rfl) (by kernel_rfl) (by kernel_rfl) (fun _ _ _ h => h) (Or.inl ⟨by rfl, ?y1qB⟩) hS0 ?r1qB
              case y1qB =>
                intro w' hSw
                obtain ⟨a0, a1, e0⟩ := HCX.out _ (hZ2.trans (hSw.mono hZ2.size)); obtain ⟨d0, d1, d2⟩ := HD.out _ hSw
                go_simp
                try simp only [j1, j2, j3]
                try rfl
              try simp only [Act.put, List.setIfInBounds_toArray, List.set_cons_zero, List.set_cons_succ]
              refine' wpAnyH_take (i := 2) (oi := ⟨some 128, _, _, _, _, _⟩) (v := _) rfl (by kernel_rfl) (by kernel_rfl) (by kernel_rfl) (fun _ _ _ h => h) (Or.inl ⟨by rfl, ?y2qB⟩) hS0 ?r2qB
              case y2qB =>
                intro w' hSw
                obtain ⟨a0, a1, e0⟩ := HCX.out _ (hZ2.trans (hSw.mono hZ2.size)); obtain ⟨d0, d1, d2⟩ := HD.out _ hSw
                go_simp
                try simp only [j1, j2, j3]
                try rfl
              try simp only [Act.put, List.setIfInBounds_toArray, List.set_cons_zero, List.set_cons_succ]
              refine' wpAnyH_take (i := 3) (oi := ⟨some 129, _, _, _, _, _⟩) (v := _) rfl (by kernel_rfl) (by kernel_rfl) (by kernel_rfl) (fun _ _ _ h => h) (Or.inl ⟨by rfl, ?y3qB⟩) hS0 ?r3qB
              case y3qB =>
                intro w' hSw
                obtain ⟨a0, a1, e0⟩ := HCX.out _ (hZ2.trans (hSw.mono hZ2.size)); obtain ⟨d0, d1, d2⟩ := HD.out _ hSw
                go_simp
                try simp only [j1, j2, j3]
                try rfl
              try simp only [Act.put, List.setIfInBounds_toArray, List.set_cons_zero, List.set_cons_succ]
              refine' wpAnyH_take (i := 4) (oi := ⟨some 130, _, _, _, _, _⟩) (v := _) rfl (by kernel_rfl) (by kernel_rfl) (by kernel_rfl) (fun _ _ _ h => h) (Or.inl ⟨by rfl, ?y4qB⟩) hS0 ?r4qB
              case y4qB =>
                intro w' hSw
                obtain ⟨a0, a1, e0⟩ := HCX.out _ (hZ2.trans (hSw.mono hZ2.size)); obtain ⟨d0, d1, d2⟩ := HD.out _ hSw
                go_simp
                try simp only [j1, j2, j3]
                try rfl
              try simp only [Act.put, List.setIfInBounds_toArray, List.set_cons_zero, List.set_cons_succ]
              refine' wpAnyH_take (i := 5) (oi := ⟨some 131, _, _, _, _, _⟩) (v := _) rfl (by kernel_rfl) (by kernel_rfl) (by kernel_rfl) (fun _ _ _ h => h) (Or.inl ⟨by rfl, ?y5qB⟩) hS0 ?r5qB
              case y5qB =>
                intro w' hSw
                obtain ⟨a0, a1, e0⟩ := HCX.out _ (hZ2.trans (hSw.mono hZ2.size)); obtain ⟨d0, d1, d2⟩ := HD.out _ hSw
                go_simp
                try simp only [j1, j2, j3]
                try rfl
              try simp only [Act.put, List.setIfInBounds_toArray, List.set_cons_zero, List.set_cons_succ]
              refine' wpAnyH_take (i := 6) (oi := ⟨some 132, _, _, _, _, _⟩) (v := _) rfl (by kernel_rfl) (by kernel_rfl) (by kernel_rfl) (fun _ _ _ h => h) (Or.inl ⟨by rfl, ?y6qB⟩) hS0 ?r6qB
              case y6qB =>
                intro w' hSw
                obtain ⟨a0, a1, e0⟩ := HCX.out _ (hZ2.trans (hSw.mono hZ2.size)); obtain ⟨d0, d1, d2⟩ := HD.out _ hSw
                go_simp
                try simp only [j1, j2, j3]
                try rfl
              try simp only [Act.put, List.setIfInBounds_toArray, List.set_cons_zero, List.set_cons_succ]
              refine' wpAnyH_take (i := 7) (oi := ⟨some 133, _, _, _, _, _⟩) (v := _) rfl (by kernel_rfl) (by kernel_rfl) (by kernel_rfl) (fun _ _ _ h => h) (Or.inl ⟨by rfl, ?y7qB⟩) hS0 ?r7qB
              case y7qB =>
                intro w' hSw
                obtain ⟨a0, a1, e0⟩ := HCX.out _ (hZ2.trans (hSw.mono hZ2.size)); obtain ⟨d0, d1, d2⟩ := HD.out _ hSw
                go_simp
                try simp only [j1, j2, j3]
                try rfl
              try simp only [Act.put, List.setIfInBounds_toArray, List.set_cons_zero, List.set_cons_succ]
              refine' wpAnyH_take (i := 8) (oi := ⟨some 134, _, _, _, _, _⟩) (v := _) rfl (by kernel_rfl) (by kernel_rfl) (by kernel_rfl) (fun _ _ _ h => h) (Or.inl ⟨by rfl, ?y8qB⟩) hS0 ?r8qB
              case y8qB =>
                intro w' hSw
                obtain ⟨a0, a1, e0⟩ := HCX.out _ (hZ2.trans (hSw.mono hZ2.size)); obtain ⟨d0, d1, d2⟩ := HD.out _ hSw
                go_simp
                try simp only [j1, j2, j3]
                try rfl
              try simp only [Act.put, List.setIfInBounds_toArray, List.set_cons_zero, List.set_cons_succ]
              refine' wpAnyH_take (i := 9) (oi := ⟨some 135, _, _, _, _, _⟩) (v := _) rfl (by kernel_rfl) (by kernel_rfl) (by kernel_rfl) (fun _ _ _ h => h) (Or.inl ⟨by rfl, ?y9qB⟩) hS0 ?r9qB
              case y9qB =>
                intro w' hSw
                obtain ⟨a0, a1, e0⟩ := HCX.out _ (hZ2.trans (hSw.mono hZ2.size)); obtain ⟨d0, d1, d2⟩ := HD.out _ hSw
                go_simp
                try simp only [j1, j2, j3]
                try rfl
              try simp only [Act.put, List.setIfInBounds_toArray, List.set_cons_zero, List.set_cons_succ]
              refine' wpAnyH_take (i := 10) (oi := ⟨some 136, _, _, _, _, _⟩) (v := (.bool true)) rfl (by kernel_rfl) (by kernel_rfl) (by kernel_rfl) (fun _ _ _ h => h) (Or.inl ⟨by rfl, ?y10qB⟩) hS0 ?r10qB
              case y10qB =>
                intro w' hSw
                obtain ⟨a0, a1, e0⟩ := HCX.out _ (hZ2.trans (hSw.mono hZ2.size)); obtain ⟨d0, d1, d2⟩ := HD.out _ hSw
                go_simp
                try simp only [j1, j2, j3]
                try rfl
              try simp only [Act.put, List.setIfInBounds_toArray, List.set_cons_zero, List.set_cons_succ]
              refine' wpAnyH_take (i := 11) (oi := ⟨some 137, _, _, _, _, _⟩) (v := (.bool true)) rfl (by kernel_rfl) (by kernel_rfl) (by kernel_rfl) (fun _ _ _ h => h) (Or.inl ⟨by rfl, ?y11qB⟩) hS0 ?r11qB
              case y11qB =>
                intro w' hSw
                obtain ⟨a0, a1, e0⟩ := HCX.out _ (hZ2.trans (hSw.mono hZ2.size)); obtain ⟨d0, d1, d2⟩ := HD.out _ hSw
                go_simp
                try simp only [j1, j2, j3]
                try rfl
              try simp only [Act.put, List.setIfInBounds_toArray, List.set_cons_zero, List.set_cons_succ]
              refine' wpAnyH_take (i := 12) (oi := ⟨some 138, _, _, _, _, _⟩) (v := undef) rfl (by kernel_rfl) (by kernel_rfl) (by kernel_rfl) (fun _ _ _ h => h) (Or.inr ⟨by rfl, rfl⟩) hS0 ?r12qB
              try simp only [Act.put, List.setIfInBounds_toArray, List.set_cons_zero, List.set_cons_succ]
              refine' wpAnyH_take (i := 13) (oi := ⟨some 139, _, _, _, _, _⟩) (v := undef) rfl (by kernel_rfl) (by kernel_rfl) (by kernel_rfl) (fun _ _ _ h => h) (Or.inr ⟨by rfl, rfl⟩) hS0 ?r13qB
              try simp only [Act.put, List.setIfInBounds_toArray, List.set_cons_zero, List.set_cons_succ]
              refine' wpAnyH_take (i := 14) (oi := ⟨some 140, _, _, _, _, _⟩) (v := undef) rfl (by kernel_rfl) (by kernel_rfl) (by kernel_rfl) (fun _ _ _ h => h) (Or.inr ⟨by rfl, rfl⟩) hS0 ?r14qB
              try simp only [Act.put, List.setIfInBounds_toArray, List.set_cons_zero, List.set_cons_succ]
              refine' wpAnyH_take (i := 15) (oi := ⟨some 141, _, _, _, _, _⟩) (v := undef) rfl (by kernel_rfl) (by kernel_rfl) (by kernel_rfl) (fun _ _ _ h => h) (Or.inr ⟨by rfl, rfl⟩) hS0 ?r15qB
              try simp only [Act.put, List.setIfInBounds_toArray, List.set_cons_zero, List.set_cons_succ]
              refine' wpAnyH_take (i := 16) (oi := ⟨some 142, _, _, _, _, _⟩) (v := undef) rfl (by kernel_rfl) (by kernel_rfl) (by kernel_rfl) (fun _ _ _ h => h) (Or.inr ⟨by rfl, rfl⟩) hS0 ?r16qB
              try simp only [Act.put, List.setIfInBounds_toArray, List.set_cons_zero, List.set_cons_succ]
              refine' wpAnyH_take (i := 17) (oi := ⟨some 143, _, _, _, _, _⟩) (v := undef) rfl (by kernel_rfl) (by kernel_rfl) (by kernel_rfl) (fun _ _ _ h => h) (Or.inr ⟨by rfl, rfl⟩) hS0 ?r17qB
              try simp only [Act.put, List.setIfInBounds_toArray, List.set_cons_zero, List.set_cons_succ]
              refine' wpAnyH_take (i := 18) (oi := ⟨some 144, _, _, _, _, _⟩) (v := undef) rfl (by kernel_rfl) (by kernel_rfl) (by kernel_rfl) (fun _ _ _ h => h) (Or.inr ⟨by rfl, rfl⟩) hS0 ?r18qB
              try simp only [Act.put, List.setIfInBounds_toArray, List.set_cons_zero, List.set_cons_succ]
              refine' wpAnyH_take (i := 19) (oi := ⟨some 145, _, _, _, _, _⟩) (v := undef) rfl (by kernel_rfl) (by kernel_rfl) (by kernel_rfl) (fun _ _ _ h => h) (Or.inr ⟨by rfl, rfl⟩) hS0 ?r19qB
              try simp only [Act.put, List.setIfInBounds_toArray, List.set_cons_zero, List.set_cons_succ]
              refine' wpAnyH_take (i := 20) (oi := ⟨some 146, _, _, _, _, _⟩) (v := undef) rfl (by kernel_rfl) (by kernel_rfl) (by kernel_rfl) (fun _ _ _ h => h) (Or.inr ⟨by rfl, rfl⟩) hS0 ?r20qB
              try simp only [Act.put, List.setIfInBounds_toArray, List.set_cons_zero, List.set_cons_succ]
              refine' wpAnyH_take (i := 21) (oi := ⟨some 147, _, _, _, _, _⟩) (v := undef) rfl (by kernel_rfl) (by kernel_rfl) (by kernel_rfl) (fun _ _ _ h => h) (Or.inr ⟨by rfl, rfl⟩) hS0 ?r21qB
              try simp only [Act.put, List.setIfInBounds_toArray, List.set_cons_zero, List.set_cons_succ]
              refine' wpAnyH_take (i := 22) (oi := ⟨some 148, _, _, _, _, _⟩) (v := undef) rfl (by kernel_rfl) (by kernel_rfl) (by kernel_rfl) (fun _ _ _ h => h) (Or.inr ⟨by rfl, rfl⟩) hS0 ?r22qB
              try simp only [Act.put, List.setIfInBounds_toArray, List.set_cons_zero, List.set_cons_succ]
              refine' wpAnyH_take (i := 23) (oi := ⟨some 149, _, _, _, _, _⟩) (v := undef) rfl (by kernel_rfl) (by kernel_rfl) (by kernel_rfl) (fun _ _ _ h => h) (Or.inr ⟨by rfl, rfl⟩) hS0 ?r23qB
              try simp only [Act.put, List.setIfInBounds_toArray, List.set_cons_zero, List.set_cons_succ]
              refine' wpAnyH_take (i := 24) (oi := ⟨some 150, _, _, _, _, _⟩) (v := undef) rfl (by kernel_rfl) (by kernel_rfl) (by kernel_rfl) (fun _ _ _ h => h) (Or.inr ⟨by rfl, rfl⟩) hS0 ?r24qB
              try simp only [Act.put, List.setIfInBounds_toArray, List.set_cons_zero, List.set_cons_succ]
              refine' wpAnyH_take (i := 25) (oi := ⟨some 151, _, _, _, _, _⟩) (v := undef) rfl (by kernel_rfl) (by kernel_rfl) (by kernel_rfl) (fun _ _ _ h => h) (Or.inr ⟨by rfl, rfl⟩) hS0 ?r25qB
              try simp only [Act.put, List.setIfInBounds_toArray, List.set_cons_zero, List.set_cons_succ]
              refine' wpAnyH_take (i := 26) (oi := ⟨some 152, _, _, _, _, _⟩) (v := undef) rfl (by kernel_rfl) (by kernel_rfl) (by kernel_rfl) (fun _ _ _ h => h) (Or.inr ⟨by rfl, rfl⟩) hS0 ?r26qB
              try simp only [Act.put, List.setIfInBounds_toArray, List.set_cons_zero, List.set_cons_succ]
              refine' wpAnyH_take (i := 27) (oi := ⟨some 153, _, _, _, _, _⟩) (v := undef) rfl (by kernel_rfl) (by kernel_rfl) (by kernel_rfl) (fun _ _ _ h => h) (Or.inr ⟨by rfl, rfl⟩) hS0 ?r27qB
              try simp only [Act.put, List.setIfInBounds_toArray, List.set_cons_zero, List.set_cons_succ]
              refine' wpAnyH_take (i := 28) (oi := ⟨some 154, _, _, _, _, _⟩) (v := undef) rfl (by kernel_rfl) (by kernel_rfl) (by kernel_rfl) (fun _ _ _ h => h) (Or.inr ⟨by rfl, rfl⟩) hS0 ?r28qB
              try simp only [Act.put, List.setIfInBounds_toArray, List.set_cons_zero, List.set_cons_succ]
              refine' wpAnyH_take (i := 29) (oi := ⟨some 155, _, _, _, _, _⟩) (v := undef) rfl (by kernel_rfl) (by kernel_rfl) (by kernel_rfl) (fun _ _ _ h => h) (Or.inr ⟨by rfl, rfl⟩) hS0 ?r29qB
              try simp only [Act.put, List.setIfInBounds_toArray, List.set_cons_zero, List.set_cons_succ]
              refine' wpAnyH_take (i := 30) (oi := ⟨some 156, _, _, _, _, _⟩) (v := undef) rfl (by kernel_rfl) (by kernel_rfl) (by kernel_rfl) (fun _ _ _ h => h) (Or.inr ⟨by rfl, rfl⟩) hS0 ?r30qB
              try simp only [Act.put, List.setIfInBounds_toArray, List.set_cons_zero, List.set_cons_succ]
              refine' wpAnyH_take (i := 31) (oi := ⟨some 157, _, _, _, _, _⟩) (v := undef) rfl (by kernel_rfl) (by kernel_rfl) (by kernel_rfl) (fun _ _ _ h => h) (Or.inr ⟨by rfl, rfl⟩) hS0 ?r31qB
              try simp only [Act.put, List.setIfInBounds_toArray, List.set_cons_zero, List.set_cons_succ]
              refine' wpAnyH_take (i := 32) (oi := ⟨some 158, _, _, _, _, _⟩) (v := undef) rfl (by kernel_rfl) (by kernel_rfl) (by kernel_rfl) (fun _ _ _ h => h) (Or.inr ⟨by rfl, rfl⟩) hS0 ?r32qB
              try simp only [Act.put, List.setIfInBounds_toArray, List.set_cons_zero, List.set_cons_succ]
              refine' wpAnyH_take (i := 33) (oi := ⟨some 159, _, _, _, _, _⟩) (v := undef) rfl (by kernel_rfl) (by kernel_rfl) (by kernel_rfl) (fun _ _ _ h => h) (Or.inr ⟨by rfl, rfl⟩) hS0 ?r33qB
              try simp only [Act.put, List.setIfInBounds_toArray, List.set_cons_zero, List.set_cons_succ]
              refine' wpAnyH_take (i := 34) (oi := ⟨some 160, _, _, _, _, _⟩) (v := undef) rfl (by kernel_rfl) (by kernel_rfl) (by kernel_rfl) (fun _ _ _ h => h) (Or.inr ⟨by rfl, rfl⟩) hS0 ?r34qB
              try simp only [Act.put, List.setIfInBounds_toArray, List.set_cons_zero, List.set_cons_succ]
              refine' wpAnyH_take (i := 35) (oi := ⟨some 161, _, _, _, _, _⟩) (v := undef) rfl (by kernel_rfl) (by kernel_rfl) (by kernel_rfl) (fun _ _ _ h => h) (Or.inr ⟨by rfl, rfl⟩) hS0 ?r35qB
              try simp only [Act.put, List.setIfInBounds_toArray, List.set_cons_zero, List.set_cons_succ]
              refine' wpAnyH_take (i := 36) (oi := ⟨some 162, _, _, _, _, _⟩) (v := (.bool true)) rfl (by kernel_rfl) (by kernel_rfl) (by kernel_rfl) (fun _ _ _ h => h) (Or.inl ⟨by rfl, ?y36qB⟩) hS0 ?r36qB
              case y36qB =>
                intro w' hSw
                obtain ⟨a0, a1, e0⟩ := HCX.out _ (hZ2.trans (hSw.mono hZ2.size)); obtain ⟨d0, d1, d2⟩ := HD.out _ hSw
                go_simp
                try simp only [j1, j2, j3]
                try rfl
              try simp only [Act.put, List.setIfInBounds_toArray, List.set_cons_zero, List.set_cons_succ]
              refine wpAnyH_done (by kernel_rfl) ?_ _
              go_wp2
              go_roundw
              case rel => exact ⟨k2 + 1, k2 + 1, by omega, by go_num, by go_num, hS0, Nat.le_refl _, Lib.hid (HYES.out HL.out)⟩
              case measure => simp [intOf]; omega
            · have HL := Lib.hid (show Le u q from Or.inr ⟨e1, e2⟩)
              have j1 : decide (u.1 < q.1) = false := decide_eq_false (by omega)
              have j2 : (u.1 == q.1) = true := by simp [e1]
              have j3 : decide (u.2 ≤ q.2) = true := decide_eq_true e2
              clear e1
              refine wp_region_held_drew (S := fun Z => Below Z2.heap.size Z2 Z) hfo (hbr.trans ((show Below wr.heap.size wr wr.drew from (Below.refl _ _).drew).mono hbr.size)) (fun hS0 => ?_)
              generalize wr.drew = wy at hS0 ⊢
              refine' wpAnyH_take (i := 0) (oi := ⟨some 126, _, _, _, _, _⟩) (v := _) rfl (by kernel_rfl) (by kernel_rfl) (by kernel_rfl) (fun _ _ _ h => h) (Or.inl ⟨by rfl, ?y0qC⟩) hS0 ?r0qC
              case y0qC =>
                intro w' hSw
                obtain ⟨a0, a1, e0⟩ := HCX.out _ (hZ2.trans (hSw.mono hZ2.size)); obtain ⟨d0, d1, d2⟩ := HD.out _ hSw
                go_simp
                try simp only [j1, j2, j3]
                try rfl
              try simp only [Act.put, List.setIfInBounds_toArray, List.set_cons_zero, List.set_cons_succ]
              refine' wpAnyH_take (i := 1) (oi := ⟨some 127, _, _, _, _, _⟩) (v := _) rfl (by kernel_rfl) (by kernel_rfl) (by kernel_rfl) (fun _ _ _ h => h) (Or.inl ⟨by rfl, ?y1qC⟩) hS0 ?r1qC
              case y1qC =>
                intro w' hSw
                obtain ⟨a0, a1, e0⟩ := HCX.out _ (hZ2.trans (hSw.mono hZ2.size)); obtain ⟨d0, d1, d2⟩ := HD.out _ hSw
                go_simp
                try simp only [j1, j2, j3]
                try rfl
              try simp only [Act.put, List.setIfInBounds_toArray, List.set_cons_zero, List.set_cons_succ]
              refine' wpAnyH_take (i := 2) (oi := ⟨some 128, _, _, _, _, _⟩) (v := _) rfl (by kernel_rfl) (by kernel_rfl) (by kernel_rfl) (fun _ _ _ h => h) (Or.inl ⟨by rfl, ?y2qC⟩) hS0 ?r2qC
              case y2qC =>
                intro w' hSw
                obtain ⟨a0, a1, e0⟩ := HCX.out _ (hZ2.trans (hSw.mono hZ2.size)); obtain ⟨d0, d1, d2⟩ := HD.out _ hSw
                go_simp
                try simp only [j1, j2, j3]
                try rfl
              try simp only [Act.put, List.setIfInBounds_toArray, List.set_cons_zero, List.set_cons_succ]
              refine' wpAnyH_take (i := 3) (oi := ⟨some 129, _, _, _, _, _⟩) (v := _) rfl (by kernel_rfl) (by kernel_rfl) (by kernel_rfl) (fun _ _ _ h => h) (Or.inl ⟨by rfl, ?y3qC⟩) hS0 ?r3qC
              case y3qC =>
                intro w' hSw
                obtain ⟨a0, a1, e0⟩ := HCX.out _ (hZ2.trans (hSw.mono hZ2.size)); obtain ⟨d0, d1, d2⟩ := HD.out _ hSw
                go_simp
                try simp only [j1, j2, j3]
                try rfl
              try simp only [Act.put, List.setIfInBounds_toArray, List.set_cons_zero, List.set_cons_succ]
              refine' wpAnyH_take (i := 4) (oi := ⟨some 130, _, _, _, _, _⟩) (v := _) rfl (by kernel_rfl) (by kernel_rfl) (by kernel_rfl) (fun _ _ _ h => h) (Or.inl ⟨by rfl, ?y4qC⟩) hS0 ?r4qC
              case y4qC =>
                intro w' hSw
                obtain ⟨a0, a1, e0⟩ := HCX.out _ (hZ2.trans (hSw.mono hZ2.size)); obtain ⟨d0, d1, d2⟩ := HD.out _ hSw
                go_simp
                try simp only [j1, j2, j3]
                try rfl
              try simp only [Act.put, List.setIfInBounds_toArray, List.set_cons_zero, List.set_cons_succ]
              refine' wpAnyH_take (i := 5) (oi := ⟨some 131, _, _, _, _, _⟩) (v := _) rfl (by kernel_rfl) (by kernel_rfl) (by kernel_rfl) (fun _ _ _ h => h) (Or.inl ⟨by rfl, ?y5qC⟩) hS0 ?r5qC
              case y5qC =>
                intro w' hSw
                obtain ⟨a0, a1, e0⟩ := HCX.out _ (hZ2.trans (hSw.mono hZ2.size)); obtain ⟨d0, d1, d2⟩ := HD.out _ hSw
                go_simp
                try simp only [j1, j2, j3]
                try rfl
              try simp only [Act.put, List.setIfInBounds_toArray, List.set_cons_zero, List.set_cons_succ]
              refine' wpAnyH_take (i := 6) (oi := ⟨some 132, _, _, _, _, _⟩) (v := _) rfl (by kernel_rfl) (by kernel_rfl) (by kernel_rfl) (fun _ _ _ h => h) (Or.inl ⟨by rfl, ?y6qC⟩) hS0 ?r6qC
              case y6qC =>
                intro w' hSw
                obtain ⟨a0, a1, e0⟩ := HCX.out _ (hZ2.trans (hSw.mono hZ2.size)); obtain ⟨d0, d1, d2⟩ := HD.out _ hSw
                go_simp
                try simp only [j1, j2, j3]
                try rfl
              try simp only [Act.put, List.setIfInBounds_toArray, List.set_cons_zero, List.set_cons_succ]
              refine' wpAnyH_take (i := 7) (oi := ⟨some 133, _, _, _, _, _⟩) (v := _) rfl (by kernel_rfl) (by kernel_rfl) (by kernel_rfl) (fun _ _ _ h => h) (Or.inl ⟨by rfl, ?y7qC⟩) hS0 ?r7qC
              case y7qC =>
                intro w' hSw
                obtain ⟨a0, a1, e0⟩ := HCX.out _ (hZ2.trans (hSw.mono hZ2.size)); obtain ⟨d0, d1, d2⟩ := HD.out _ hSw
                go_simp
                try simp only [j1, j2, j3]
                try rfl
              try simp only [Act.put, List.setIfInBounds_toArray, List.set_cons_zero, List.set_cons_succ]
              refine' wpAnyH_take (i := 8) (oi := ⟨some 134, _, _, _, _, _⟩) (v := _) rfl (by kernel_rfl) (by kernel_rfl) (by kernel_rfl) (fun _ _ _ h => h) (Or.inl ⟨by rfl, ?y8qC⟩) hS0 ?r8qC
              case y8qC =>
                intro w' hSw
                obtain ⟨a0, a1, e0⟩ := HCX.out _ (hZ2.trans (hSw.mono hZ2.size)); obtain ⟨d0, d1, d2⟩ := HD.out _ hSw
                go_simp
                try simp only [j1, j2, j3]
                try rfl
              try simp only [Act.put, List.setIfInBounds_toArray, List.set_cons_zero, List.set_cons_succ]
              refine' wpAnyH_take (i := 9) (oi := ⟨some 135, _, _, _, _, _⟩) (v := _) rfl (by kernel_rfl) (by kernel_rfl) (by kernel_rfl) (fun _ _ _ h => h) (Or.inl ⟨by rfl, ?y9qC⟩) hS0 ?r9qC
              case y9qC =>
                intro w' hSw
                obtain ⟨a0, a1, e0⟩ := HCX.out _ (hZ2.trans (hSw.mono hZ2.size)); obtain ⟨d0, d1, d2⟩ := HD.out _ hSw
                go_simp
                try simp only [j1, j2, j3]
                try rfl
              try simp only [Act.put, List.setIfInBounds_toArray, List.set_cons_zero, List.set_cons_succ]
              refine' wpAnyH_take (i := 10) (oi := ⟨some 136, _, _, _, _, _⟩) (v := (.bool false)) rfl (by kernel_rfl) (by kernel_rfl) (by kernel_rfl) (fun _ _ _ h => h) (Or.inl ⟨by rfl, ?y10qC⟩) hS0 ?r10qC
              case y10qC =>
                intro w' hSw
                obtain ⟨a0, a1, e0⟩ := HCX.out _ (hZ2.trans (hSw.mono hZ2.size)); obtain ⟨d0, d1, d2⟩ := HD.out _ hSw
                go_simp
                try simp only [j1, j2, j3]
                try rfl
              try simp only [Act.put, List.setIfInBounds_toArray, List.set_cons_zero, List.set_cons_succ]
              refine' wpAnyH_take (i := 11) (oi := ⟨some 137, _, _, _, _, _⟩) (v := (.bool false)) rfl (by kernel_rfl) (by kernel_rfl) (by kernel_rfl) (fun _ _ _ h => h) (Or.inl ⟨by rfl, ?y11qC⟩) hS0 ?r11qC
              case y11qC =>
                intro w' hSw
                obtain ⟨a0, a1, e0⟩ := HCX.out _ (hZ2.trans (hSw.mono hZ2.size)); obtain ⟨d0, d1, d2⟩ := HD.out _ hSw
                go_simp
                try simp only [j1, j2, j3]
                try rfl
              try simp only [Act.put, List.setIfInBounds_toArray, List.set_cons_zero, List.set_cons_succ]
              refine' wpAnyH_take (i := 12) (oi := ⟨some 138, _, _, _, _, _⟩) (v := _) rfl (by kernel_rfl) (by kernel_rfl) (by kernel_rfl) (fun _ _ _ h => h) (Or.inl ⟨by rfl, ?y12qC⟩) hS0 ?r12qC
              case y12qC =>
                intro w' hSw
                obtain ⟨a0, a1, e0⟩ := HCX.out _ (hZ2.trans (hSw.mono hZ2.size)); obtain ⟨d0, d1, d2⟩ := HD.out _ hSw
                go_simp
                try simp only [j1, j2, j3]
                try rfl
              try simp only [Act.put, List.setIfInBounds_toArray, List.set_cons_zero, List.set_cons_succ]
              refine' wpAnyH_take (i := 13) (oi := ⟨some 139, _, _, _, _, _⟩) (v := _) rfl (by kernel_rfl) (by kernel_rfl) (by kernel_rfl) (fun _ _ _ h => h) (Or.inl ⟨by rfl, ?y13qC⟩) hS0 ?r13qC
              case y13qC =>
                intro w' hSw
                obtain ⟨a0, a1, e0⟩ := HCX.out _ (hZ2.trans (hSw.mono hZ2.size)); obtain ⟨d0, d1, d2⟩ := HD.out _ hSw
                go_simp
                try simp only [j1, j2, j3]
                try rfl
              try simp only [Act.put, List.setIfInBounds_toArray, List.set_cons_zero, List.set_cons_succ]
              refine' wpAnyH_take (i := 14) (oi := ⟨some 140, _, _, _, _, _⟩) (v := _) rfl (by kernel_rfl) (by kernel_rfl) (by kernel_rfl) (fun _ _ _ h => h) (Or.inl ⟨by rfl, ?y14qC⟩) hS0 ?r14qC
              case y14qC =>
                intro w' hSw
                obtain ⟨a0, a1, e0⟩ := HCX.out _ (hZ2.trans (hSw.mono hZ2.size)); obtain ⟨d0, d1, d2⟩ := HD.out _ hSw
                go_simp
                try simp only [j1, j2, j3]
                try rfl
              try simp only [Act.put, List.setIfInBounds_toArray, List.set_cons_zero, List.set_cons_succ]
              refine' wpAnyH_take (i := 15) (oi := ⟨some 141, _, _, _, _, _⟩) (v := _) rfl (by kernel_rfl) (by kernel_rfl) (by kernel_rfl) (fun _ _ _ h => h) (Or.inl ⟨by rfl, ?y15qC⟩) hS0 ?r15qC
              case y15qC =>
                intro w' hSw
                obtain ⟨a0, a1, e0⟩ := HCX.out _ (hZ2.trans (hSw.mono hZ2.size)); obtain ⟨d0, d1, d2⟩ := HD.out _ hSw
                go_simp
                try simp only [j1, j2, j3]
                try rfl
              try simp only [Act.put, List.setIfInBounds_toArray, List.set_cons_zero, List.set_cons_succ]
              refine' wpAnyH_take (i := 16) (oi := ⟨some 142, _, _, _, _, _⟩) (v := _) rfl (by kernel_rfl) (by kernel_rfl) (by kernel_rfl) (fun _ _ _ h => h) (Or.inl ⟨by rfl, ?y16qC⟩) hS0 ?r16qC
              case y16qC =>
                intro w' hSw
                obtain ⟨a0, a1, e0⟩ := HCX.out _ (hZ2.trans (hSw.mono hZ2.size)); obtain ⟨d0, d1, d2⟩ := HD.out _ hSw
                go_simp
                try simp only [j1, j2, j3]
                try rfl
              try simp only [Act.put, List.setIfInBounds_toArray, List.set_cons_zero, List.set_cons_succ]
              refine' wpAnyH_take (i := 17) (oi := ⟨some 143, _, _, _, _, _⟩) (v := _) rfl (by kernel_rfl) (by kernel_rfl) (by kernel_rfl) (fun _ _ _ h => h) (Or.inl ⟨by rfl, ?y17qC⟩) hS0 ?r17qC
              case y17qC =>
                intro w' hSw
                obtain ⟨a0, a1, e0⟩ := HCX.out _ (hZ2.trans (hSw.mono hZ2.size)); obtain ⟨d0, d1, d2⟩ := HD.out _ hSw
                go_simp
                try simp only [j1, j2, j3]
                try rfl
              try simp only [Act.put, List.setIfInBounds_toArray, List.set_cons_zero, List.set_cons_succ]
              refine' wpAnyH_take (i := 18) (oi := ⟨some 144, _, _, _, _, _⟩) (v := _) rfl (by kernel_rfl) (by kernel_rfl) (by kernel_rfl) (fun _ _ _ h => h) (Or.inl ⟨by rfl, ?y18qC⟩) hS0 ?r18qC
              case y18qC =>
                intro w' hSw
                obtain ⟨a0, a1, e0⟩ := HCX.out _ (hZ2.trans (hSw.mono hZ2.size)); obtain ⟨d0, d1, d2⟩ := HD.out _ hSw
                go_simp
                try simp only [j1, j2, j3]
                try rfl
              try simp only [Act.put, List.setIfInBounds_toArray, List.set_cons_zero, List.set_cons_succ]
              refine' wpAnyH_take (i := 19) (oi := ⟨some 145, _, _, _, _, _⟩) (v := _) rfl (by kernel_rfl) (by kernel_rfl) (by kernel_rfl) (fun _ _ _ h => h) (Or.inl ⟨by rfl, ?y19qC⟩) hS0 ?r19qC
              case y19qC =>
                intro w' hSw
                obtain ⟨a0, a1, e0⟩ := HCX.out _ (hZ2.trans (hSw.mono hZ2.size)); obtain ⟨d0, d1, d2⟩ := HD.out _ hSw
                go_simp
                try simp only [j1, j2, j3]
                try rfl
              try simp only [Act.put, List.setIfInBounds_toArray, List.set_cons_zero, List.set_cons_succ]
              refine' wpAnyH_take (i := 20) (oi := ⟨some 146, _, _, _, _, _⟩) (v := _) rfl (by kernel_rfl) (by kernel_rfl) (by kernel_rfl) (fun _ _ _ h => h) (Or.inl ⟨by rfl, ?y20qC⟩) hS0 ?r20qC
              case y20qC =>
                intro w' hSw
                obtain ⟨a0, a1, e0⟩ := HCX.out _ (hZ2.trans (hSw.mono hZ2.size)); obtain ⟨d0, d1, d2⟩ := HD.out _ hSw
                go_simp
                try simp only [j1, j2, j3]
                try rfl
              try simp only [Act.put, List.setIfInBounds_toArray, List.set_cons_zero, List.set_cons_succ]
              refine' wpAnyH_take (i := 21) (oi := ⟨some 147, _, _, _, _, _⟩) (v := _) rfl (by kernel_rfl) (by kernel_rfl) (by kernel_rfl) (fun _ _ _ h => h) (Or.inl ⟨by rfl, ?y21qC⟩) hS0 ?r21qC
              case y21qC =>
                intro w' hSw
                obtain ⟨a0, a1, e0⟩ := HCX.out _ (hZ2.trans (hSw.mono hZ2.size)); obtain ⟨d0, d1, d2⟩ := HD.out _ hSw
                go_simp
                try simp only [j1, j2, j3]
                try rfl
              try simp only [Act.put, List.setIfInBounds_toArray, List.set_cons_zero, List.set_cons_succ]
              refine' wpAnyH_take (i := 22) (oi := ⟨some 148, _, _, _, _, _⟩) (v := (.bool true)) rfl (by kernel_rfl) (by kernel_rfl) (by kernel_rfl) (fun _ _ _ h => h) (Or.inl ⟨by rfl, ?y22qC⟩) hS0 ?r22qC
              case y22qC =>
                intro w' hSw
                obtain ⟨a0, a1, e0⟩ := HCX.out _ (hZ2.trans (hSw.mono hZ2.size)); obtain ⟨d0, d1, d2⟩ := HD.out _ hSw
                go_simp
                try simp only [j1, j2, j3]
                try rfl
              try simp only [Act.put, List.setIfInBounds_toArray, List.set_cons_zero, List.set_cons_succ]
              refine' wpAnyH_take (i := 23) (oi := ⟨some 149, _, _, _, _, _⟩) (v := (.bool true)) rfl (by kernel_rfl) (by kernel_rfl) (by kernel_rfl) (fun _ _ _ h => h) (Or.inl ⟨by rfl, ?y23qC⟩) hS0 ?r23qC
              case y23qC =>
                intro w' hSw
                obtain ⟨a0, a1, e0⟩ := HCX.out _ (hZ2.trans (hSw.mono hZ2.size)); obtain ⟨d0, d1, d2⟩ := HD.out _ hSw
                go_simp
                try simp only [j1, j2, j3]
                try rfl
              try simp only [Act.put, List.setIfInBounds_toArray, List.set_cons_zero, List.set_cons_succ]
              refine' wpAnyH_take (i := 24) (oi := ⟨some 150, _, _, _, _, _⟩) (v := _) rfl (by kernel_rfl) (by kernel_rfl) (by kernel_rfl) (fun _ _ _ h => h) (Or.inl ⟨by rfl, ?y24qC⟩) hS0 ?r24qC
              case y24qC =>
                intro w' hSw
                obtain ⟨a0, a1, e0⟩ := HCX.out _ (hZ2.trans (hSw.mono hZ2.size)); obtain ⟨d0, d1, d2⟩ := HD.out _ hSw
                go_simp
                try simp only [j1, j2, j3]
                try rfl
              try simp only [Act.put, List.setIfInBounds_toArray, List.set_cons_zero, List.set_cons_succ]
              refine' wpAnyH_take (i := 25) (oi := ⟨some 151, _, _, _, _, _⟩) (v := _) rfl (by kernel_rfl) (by kernel_rfl) (by kernel_rfl) (fun _ _ _ h => h) (Or.inl ⟨by rfl, ?y25qC⟩) hS0 ?r25qC
              case y25qC =>
                intro w' hSw
                obtain ⟨a0, a1, e0⟩ := HCX.out _ (hZ2.trans (hSw.mono hZ2.size)); obtain ⟨d0, d1, d2⟩ := HD.out _ hSw
                go_simp
                try simp only [j1, j2, j3]
                try rfl
              try simp only [Act.put, List.setIfInBounds_toArray, List.set_cons_zero, List.set_cons_succ]
              refine' wpAnyH_take (i := 26) (oi := ⟨some 152, _, _, _, _, _⟩) (v := _) rfl (by kernel_rfl) (by kernel_rfl) (by kernel_rfl) (fun _ _ _ h => h) (Or.inl ⟨by rfl, ?y26qC⟩) hS0 ?r26qC
              case y26qC =>
                intro w' hSw
                obtain ⟨a0, a1, e0⟩ := HCX.out _ (hZ2.trans (hSw.mono hZ2.size)); obtain ⟨d0, d1, d2⟩ := HD.out _ hSw
                go_simp
                try simp only [j1, j2, j3]
                try rfl
              try simp only [Act.put, List.setIfInBounds_toArray, List.set_cons_zero, List.set_cons_succ]
              refine' wpAnyH_take (i := 27) (oi := ⟨some 153, _, _, _, _, _⟩) (v := _) rfl (by kernel_rfl) (by kernel_rfl) (by kernel_rfl) (fun _ _ _ h => h) (Or.inl ⟨by rfl, ?y27qC⟩) hS0 ?r27qC
              case y27qC =>
                intro w' hSw
                obtain ⟨a0, a1, e0⟩ := HCX.out _ (hZ2.trans (hSw.mono hZ2.size)); obtain ⟨d0, d1, d2⟩ := HD.out _ hSw
                go_simp
                try simp only [j1, j2, j3]
                try rfl
              try simp only [Act.put, List.setIfInBounds_toArray, List.set_cons_zero, List.set_cons_succ]
              refine' wpAnyH_take (i := 28) (oi := ⟨some 154, _, _, _, _, _⟩) (v := _) rfl (by kernel_rfl) (by kernel_rfl) (by kernel_rfl) (fun _ _ _ h => h) (Or.inl ⟨by rfl, ?y28qC⟩) hS0 ?r28qC
              case y28qC =>
                intro w' hSw
                obtain ⟨a0, a1, e0⟩ := HCX.out _ (hZ2.trans (hSw.mono hZ2.size)); obtain ⟨d0, d1, d2⟩ := HD.out _ hSw
                go_simp
                try simp only [j1, j2, j3]
                try rfl
              try simp only [Act.put, List.setIfInBounds_toArray, List.set_cons_zero, List.set_cons_succ]
              refine' wpAnyH_take (i := 29) (oi := ⟨some 155, _, _, _, _, _⟩) (v := _) rfl (by kernel_rfl) (by kernel_rfl) (by kernel_rfl) (fun _ _ _ h => h) (Or.inl ⟨by rfl, ?y29qC⟩) hS0 ?r29qC
              case y29qC =>
                intro w' hSw
                obtain ⟨a0, a1, e0⟩ := HCX.out _ (hZ2.trans (hSw.mono hZ2.size)); obtain ⟨d0, d1, d2⟩ := HD.out _ hSw
                go_simp
                try simp only [j1, j2, j3]
                try rfl
              try simp only [Act.put, List.setIfInBounds_toArray, List.set_cons_zero, List.set_cons_succ]
              refine' wpAnyH_take (i := 30) (oi := ⟨some 156, _, _, _, _, _⟩) (v := _) rfl (by kernel_rfl) (by kernel_rfl) (by kernel_rfl) (fun _ _ _ h => h) (Or.inl ⟨by rfl, ?y30qC⟩) hS0 ?r30qC
              case y30qC =>
                intro w' hSw
                obtain ⟨a0, a1, e0⟩ := HCX.out _ (hZ2.trans (hSw.mono hZ2.size)); obtain ⟨d0, d1, d2⟩ := HD.out _ hSw
                go_simp
                try simp only [j1, j2, j3]
                try rfl
              try simp only [Act.put, List.setIfInBounds_toArray, List.set_cons_zero, List.set_cons_succ]
              refine' wpAnyH_take (i := 31) (oi := ⟨some 157, _, _, _, _, _⟩) (v := _) rfl (by kernel_rfl) (by kernel_rfl) (by kernel_rfl) (fun _ _ _ h => h) (Or.inl ⟨by rfl, ?y31qC⟩) hS0 ?r31qC
              case y31qC =>
                intro w' hSw
                obtain ⟨a0, a1, e0⟩ := HCX.out _ (hZ2.trans (hSw.mono hZ2.size)); obtain ⟨d0, d1, d2⟩ := HD.out _ hSw
                go_simp
                try simp only [j1, j2, j3]
                try rfl
              try simp only [Act.put, List.setIfInBounds_toArray, List.set_cons_zero, List.set_cons_succ]
              refine' wpAnyH_take (i := 32) (oi := ⟨some 158, _, _, _, _, _⟩) (v := _) rfl (by kernel_rfl) (by kernel_rfl) (by kernel_rfl) (fun _ _ _ h => h) (Or.inl ⟨by rfl, ?y32qC⟩) hS0 ?r32qC
              case y32qC =>
                intro w' hSw
                obtain ⟨a0, a1, e0⟩ := HCX.out _ (hZ2.trans (hSw.mono hZ2.size)); obtain ⟨d0, d1, d2⟩ := HD.out _ hSw
                go_simp
                try simp only [j1, j2, j3]
                try rfl
              try simp only [Act.put, List.setIfInBounds_toArray, List.set_cons_zero, List.set_cons_succ]
              refine' wpAnyH_take (i := 33) (oi := ⟨some 159, _, _, _, _, _⟩) (v := _) rfl (by kernel_rfl) (by kernel_rfl) (by kernel_rfl) (fun _ _ _ h => h) (Or.inl ⟨by rfl, ?y33qC⟩) hS0 ?r33qC
              case y33qC =>
                intro w' hSw
                obtain ⟨a0, a1, e0⟩ := HCX.out _ (hZ2.trans (hSw.mono hZ2.size)); obtain ⟨d0, d1, d2⟩ := HD.out _ hSw
                go_simp
                try simp only [j1, j2, j3]
                try rfl
              try simp only [Act.put, List.setIfInBounds_toArray, List.set_cons_zero, List.set_cons_succ]
              refine' wpAnyH_take (i := 34) (oi := ⟨some 160, _, _, _, _, _⟩) (v := (.bool true)) rfl (by kernel_rfl) (by kernel_rfl) (by kernel_rfl) (fun _ _ _ h => h) (Or.inl ⟨by rfl, ?y34qC⟩) hS0 ?r34qC
              case y34qC =>
                intro w' hSw
                obtain ⟨a0, a1, e0⟩ := HCX.out _ (hZ2.trans (hSw.mono hZ2.size)); obtain ⟨d0, d1, d2⟩ := HD.out _ hSw
                go_simp
                try simp only [j1, j2, j3]
                try rfl
              try simp only [Act.put, List.setIfInBounds_toArray, List.set_cons_zero, List.set_cons_succ]
              refine' wpAnyH_take (i := 35) (oi := ⟨some 161, _, _, _, _, _⟩) (v := (.bool true)) rfl (by kernel_rfl) (by kernel_rfl) (by kernel_rfl) (fun _ _ _ h => h) (Or.inl ⟨by rfl, ?y35qC⟩) hS0 ?r35qC
              case y35qC =>
                intro w' hSw
                obtain ⟨a0, a1, e0⟩ := HCX.out _ (hZ2.trans (hSw.mono hZ2.size)); obtain ⟨d0, d1, d2⟩ := HD.out _ hSw
                go_simp
                try simp only [j1, j2, j3]
                try rfl
              try simp only [Act.put, List.setIfInBounds_toArray, List.set_cons_zero, List.set_cons_succ]
              refine' wpAnyH_take (i := 36) (oi := ⟨some 162, _, _, _, _, _⟩) (v := (.bool true)) rfl (by kernel_rfl) (by kernel_rfl) (by kernel_rfl) (fun _ _ _ h => h) (Or.inl ⟨by rfl, ?y36qC⟩) hS0 ?r36qC
              case y36qC =>
                intro w' hSw
                obtain ⟨a0, a1, e0⟩ := HCX.out _ (hZ2.trans (hSw.mono hZ2.size)); obtain ⟨d0, d1, d2⟩ := HD.out _ hSw
                go_simp
                try simp only [j1, j2, j3]
                try rfl
              try simp only [Act.put, List.setIfInBounds_toArray, List.set_cons_zero, List.set_cons_succ]
              refine wpAnyH_done (by kernel_rfl) ?_ _
              go_wp2
              go_roundw
              case rel => exact ⟨k2 + 1, k2 + 1, by omega, by go_num, by go_num, hS0, Nat.le_refl _, Lib.hid (HYES.out HL.out)⟩
              case measure => simp [intOf]; omega
            · have HL := Lib.hid (show ¬ Le u q by unfold Le; omega)
              have j1 : decide (u.1 < q.1) = false := decide_eq_false (by omega)
              have j2 : (u.1 == q.1) = true := by simp [e1]
              have j3 : decide (u.2 ≤ q.2) = false := decide_eq_false e2
              clear e1
              refine wp_region_held_drew (S := fun Z => Below Z2.heap.size Z2 Z) hfo (hbr.trans ((show Below wr.heap.size wr wr.drew from (Below.refl _ _).drew).mono hbr.size)) (fun hS0 => ?_)
              generalize wr.drew = wy at hS0 ⊢
              refine' wpAnyH_take (i := 0) (oi := ⟨some 126, _, _, _, _, _⟩) (v := _) rfl (by kernel_rfl) (by kernel_rfl) (by kernel_rfl) (fun _ _ _ h => h) (Or.inl ⟨by rfl, ?y0qD⟩) hS0 ?r0qD
              case y0qD =>
                intro w' hSw
                obtain ⟨a0, a1, e0⟩ := HCX.out _ (hZ2.trans (hSw.mono hZ2.size)); obtain ⟨d0, d1, d2⟩ := HD.out _ hSw
                go_simp
                try simp only [j1, j2, j3]
                try rfl
              try simp only [Act.put, List.setIfInBounds_toArray, List.set_cons_zero, List.set_cons_succ]
              refine' wpAnyH_take (i := 1) (oi := ⟨some 127, _, _, _, _, _⟩) (v := _) rfl (by kernel_rfl) (by kernel_rfl) (by kernel_rfl) (fun _ _ _ h => h) (Or.inl ⟨by rfl, ?y1qD⟩) hS0 ?r1qD
              case y1qD =>
                intro w' hSw
                obtain ⟨a0, a1, e0⟩ := HCX.out _ (hZ2.trans (hSw.mono hZ2.size)); obtain ⟨d0, d1, d2⟩ := HD.out _ hSw
                go_simp
                try simp only [j1, j2, j3]
                try rfl
              try simp only [Act.put, List.setIfInBounds_toArray, List.set_cons_zero, List.set_cons_succ]
              refine' wpAnyH_take (i := 2) (oi := ⟨some 128, _, _, _, _, _⟩) (v := _) rfl (by kernel_rfl) (by kernel_rfl) (by kernel_rfl) (fun _ _ _ h => h) (Or.inl ⟨by rfl, ?y2qD⟩) hS0 ?r2qD
              case y2qD =>
                intro w' hSw
                obtain ⟨a0, a1, e0⟩ := HCX.out _ (hZ2.trans (hSw.mono hZ2.size)); obtain ⟨d0, d1, d2⟩ := HD.out _ hSw
                go_simp
                try simp only [j1, j2, j3]
                try rfl
              try simp only [Act.put, List.setIfInBounds_toArray, List.set_cons_zero, List.set_cons_succ]
              refine' wpAnyH_take (i := 3) (oi := ⟨some 129, _, _, _, _, _⟩) (v := _) rfl (by kernel_rfl) (by kernel_rfl) (by kernel_rfl) (fun _ _ _ h => h) (Or.inl ⟨by rfl, ?y3qD⟩) hS0 ?r3qD
              case y3qD =>
                intro w' hSw
                obtain ⟨a0, a1, e0⟩ := HCX.out _ (hZ2.trans (hSw.mono hZ2.size)); obtain ⟨d0, d1, d2⟩ := HD.out _ hSw
                go_simp
                try simp only [j1, j2, j3]
                try rfl
              try simp only [Act.put, List.setIfInBounds_toArray, List.set_cons_zero, List.set_cons_succ]
              refine' wpAnyH_take (i := 4) (oi := ⟨some 130, _, _, _, _, _⟩) (v := _) rfl (by kernel_rfl) (by kernel_rfl) (by kernel_rfl) (fun _ _ _ h => h) (Or.inl ⟨by rfl, ?y4qD⟩) hS0 ?r4qD
              case y4qD =>
                intro w' hSw
                obtain ⟨a0, a1, e0⟩ := HCX.out _ (hZ2.trans (hSw.mono hZ2.size)); obtain ⟨d0, d1, d2⟩ := HD.out _ hSw
                go_simp
                try simp only [j1, j2, j3]
                try rfl
              try simp only [Act.put, List.setIfInBounds_toArray, List.set_cons_zero, List.set_cons_succ]
              refine' wpAnyH_take (i := 5) (oi := ⟨some 131, _, _, _, _, _⟩) (v := _) rfl (by kernel_rfl) (by kernel_rfl) (by kernel_rfl) (fun _ _ _ h => h) (Or.inl ⟨by rfl, ?y5qD⟩) hS0 ?r5qD
              case y5qD =>
                intro w' hSw
                obtain ⟨a0, a1, e0⟩ := HCX.out _ (hZ2.trans (hSw.mono hZ2.size)); obtain ⟨d0, d1, d2⟩ := HD.out _ hSw
                go_simp
                try simp only [j1, j2, j3]
                try rfl
              try simp only [Act.put, List.setIfInBounds_toArray, List.set_cons_zero, List.set_cons_succ]
              refine' wpAnyH_take (i := 6) (oi := ⟨some 132, _, _, _, _, _⟩) (v := _) rfl (by kernel_rfl) (by kernel_rfl) (by kernel_rfl) (fun _ _ _ h => h) (Or.inl ⟨by rfl, ?y6qD⟩) hS0 ?r6qD
              case y6qD =>
                intro w' hSw
                obtain ⟨a0, a1, e0⟩ := HCX.out _ (hZ2.trans (hSw.mono hZ2.size)); obtain ⟨d0, d1, d2⟩ := HD.out _ hSw
                go_simp
                try simp only [j1, j2, j3]
                try rfl
              try simp only [Act.put, List.setIfInBounds_toArray, List.set_cons_zero, List.set_cons_succ]
              refine' wpAnyH_take (i := 7) (oi := ⟨some 133, _, _, _, _, _⟩) (v := _) rfl (by kernel_rfl) (by kernel_rfl) (by kernel_rfl) (fun _ _ _ h => h) (Or.inl ⟨by rfl, ?y7qD⟩) hS0 ?r7qD
              case y7qD =>
                intro w' hSw
                obtain ⟨a0, a1, e0⟩ := HCX.out _ (hZ2.trans (hSw.mono hZ2.size)); obtain ⟨d0, d1, d2⟩ := HD.out _ hSw
                go_simp
                try simp only [j1, j2, j3]
                try rfl
              try simp only [Act.put, List.setIfInBounds_toArray, List.set_cons_zero, List.set_cons_succ]
              refine' wpAnyH_take (i := 8) (oi := ⟨some 134, _, _, _, _, _⟩) (v := _) rfl (by kernel_rfl) (by kernel_rfl) (by kernel_rfl) (fun _ _ _ h => h) (Or.inl ⟨by rfl, ?y8qD⟩) hS0 ?r8qD
              case y8qD =>
                intro w' hSw
                obtain ⟨a0, a1, e0⟩ := HCX.out _ (hZ2.trans (hSw.mono hZ2.size)); obtain ⟨d0, d1, d2⟩ := HD.out _ hSw
                go_simp
                try simp only [j1, j2, j3]
                try rfl
              try simp only [Act.put, List.setIfInBounds_toArray, List.set_cons_zero, List.set_cons_succ]
              refine' wpAnyH_take (i := 9) (oi := ⟨some 135, _, _, _, _, _⟩) (v := _) rfl (by kernel_rfl) (by kernel_rfl) (by kernel_rfl) (fun _ _ _ h => h) (Or.inl ⟨by rfl, ?y9qD⟩) hS0 ?r9qD
              case y9qD =>
                intro w' hSw
                obtain ⟨a0, a1, e0⟩ := HCX.out _ (hZ2.trans (hSw.mono hZ2.size)); obtain ⟨d0, d1, d2⟩ := HD.out _ hSw
                go_simp
                try simp only [j1, j2, j3]
                try rfl
              try simp only [Act.put, List.setIfInBounds_toArray, List.set_cons_zero, List.set_cons_succ]
              refine' wpAnyH_take (i := 10) (oi := ⟨some 136, _, _, _, _, _⟩) (v := (.bool false)) rfl (by kernel_rfl) (by kernel_rfl) (by kernel_rfl) (fun _ _ _ h => h) (Or.inl ⟨by rfl, ?y10qD⟩) hS0 ?r10qD
              case y10qD =>
                intro w' hSw
                obtain ⟨a0, a1, e0⟩ := HCX.out _ (hZ2.trans (hSw.mono hZ2.size)); obtain ⟨d0, d1, d2⟩ := HD.out _ hSw
                go_simp
                try simp only [j1, j2, j3]
                try rfl
              try simp only [Act.put, List.setIfInBounds_toArray, List.set_cons_zero, List.set_cons_succ]
              refine' wpAnyH_take (i := 11) (oi := ⟨some 137, _, _, _, _, _⟩) (v := (.bool false)) rfl (by kernel_rfl) (by kernel_rfl) (by kernel_rfl) (fun _ _ _ h => h) (Or.inl ⟨by rfl, ?y11qD⟩) hS0 ?r11qD
              case y11qD =>
                intro w' hSw
                obtain ⟨a0, a1, e0⟩ := HCX.out _ (hZ2.trans (hSw.mono hZ2.size)); obtain ⟨d0, d1, d2⟩ := HD.out _ hSw
                go_simp
                try simp only [j1, j2, j3]
                try rfl
              try simp only [Act.put, List.setIfInBounds_toArray, List.set_cons_zero, List.set_cons_succ]
              refine' wpAnyH_take (i := 12) (oi := ⟨some 138, _, _, _, _, _⟩) (v := _) rfl (by kernel_rfl) (by kernel_rfl) (by kernel_rfl) (fun _ _ _ h => h) (Or.inl ⟨by rfl, ?y12qD⟩) hS0 ?r12qD
              case y12qD =>
                intro w' hSw
                obtain ⟨a0, a1, e0⟩ := HCX.out _ (hZ2.trans (hSw.mono hZ2.size)); obtain ⟨d0, d1, d2⟩ := HD.out _ hSw
                go_simp
                try simp only [j1, j2, j3]
                try rfl
              try simp only [Act.put, List.setIfInBounds_toArray, List.set_cons_zero, List.set_cons_succ]
              refine' wpAnyH_take (i := 13) (oi := ⟨some 139, _, _, _, _, _⟩) (v := _) rfl (by kernel_rfl) (by kernel_rfl) (by kernel_rfl) (fun _ _ _ h => h) (Or.inl ⟨by rfl, ?y13qD⟩) hS0 ?r13qD
              case y13qD =>
                intro w' hSw
                obtain ⟨a0, a1, e0⟩ := HCX.out _ (hZ2.trans (hSw.mono hZ2.size)); obtain ⟨d0, d1, d2⟩ := HD.out _ hSw
                go_simp
                try simp only [j1, j2, j3]
                try rfl
              try simp only [Act.put, List.setIfInBounds_toArray, List.set_cons_zero, List.set_cons_succ]
              refine' wpAnyH_take (i := 14) (oi := ⟨some 140, _, _, _, _, _⟩) (v := _) rfl (by kernel_rfl) (by kernel_rfl) (by kernel_rfl) (fun _ _ _ h => h) (Or.inl ⟨by rfl, ?y14qD⟩) hS0 ?r14qD
              case y14qD =>
                intro w' hSw
                obtain ⟨a0, a1, e0⟩ := HCX.out _ (hZ2.trans (hSw.mono hZ2.size)); obtain ⟨d0, d1, d2⟩ := HD.out _ hSw
                go_simp
                try simp only [j1, j2, j3]
                try rfl
              try simp only [Act.put, List.setIfInBounds_toArray, List.set_cons_zero, List.set_cons_succ]
              refine' wpAnyH_take (i := 15) (oi := ⟨some 141, _, _, _, _, _⟩) (v := _) rfl (by kernel_rfl) (by kernel_rfl) (by kernel_rfl) (fun _ _ _ h => h) (Or.inl ⟨by rfl, ?y15qD⟩) hS0 ?r15qD
              case y15qD =>
                intro w' hSw
                obtain ⟨a0, a1, e0⟩ := HCX.out _ (hZ2.trans (hSw.mono hZ2.size)); obtain ⟨d0, d1, d2⟩ := HD.out _ hSw
                go_simp
                try simp only [j1, j2, j3]
                try rfl
              try simp only [Act.put, List.setIfInBounds_toArray, List.set_cons_zero, List.set_cons_succ]
              refine' wpAnyH_take (i := 16) (oi := ⟨some 142, _, _, _, _, _⟩) (v := _) rfl (by kernel_rfl) (by kernel_rfl) (by kernel_rfl) (fun _ _ _ h => h) (Or.inl ⟨by rfl, ?y16qD⟩) hS0 ?r16qD
              case y16qD =>
                intro w' hSw
                obtain ⟨a0, a1, e0⟩ := HCX.out _ (hZ2.trans (hSw.mono hZ2.size)); obtain ⟨d0, d1, d2⟩ := HD.out _ hSw
                go_simp
                try simp only [j1, j2, j3]
                try rfl
              try simp only [Act.put, List.setIfInBounds_toArray, List.set_cons_zero, List.set_cons_succ]
              refine' wpAnyH_take (i := 17) (oi := ⟨some 143, _, _, _, _, _⟩) (v := _) rfl (by kernel_rfl) (by kernel_rfl) (by kernel_rfl) (fun _ _ _ h => h) (Or.inl ⟨by rfl, ?y17qD⟩) hS0 ?r17qD
              case y17qD =>
                intro w' hSw
                obtain ⟨a0, a1, e0⟩ := HCX.out _ (hZ2.trans (hSw.mono hZ2.size)); obtain ⟨d0, d1, d2⟩ := HD.out _ hSw
                go_simp
                try simp only [j1, j2, j3]
                try rfl
              try simp only [Act.put, List.setIfInBounds_toArray, List.set_cons_zero, List.set_cons_succ]
              refine' wpAnyH_take (i := 18) (oi := ⟨some 144, _, _, _, _, _⟩) (v := _) rfl (by kernel_rfl) (by kernel_rfl) (by kernel_rfl) (fun _ _ _ h => h) (Or.inl ⟨by rfl, ?y18qD⟩) hS0 ?r18qD
              case y18qD =>
                intro w' hSw
                obtain ⟨a0, a1, e0⟩ := HCX.out _ (hZ2.trans (hSw.mono hZ2.size)); obtain ⟨d0, d1, d2⟩ := HD.out _ hSw
                go_simp
                try simp only [j1, j2, j3]
                try rfl
              try simp only [Act.put, List.setIfInBounds_toArray, List.set_cons_zero, List.set_cons_succ]
              refine' wpAnyH_take (i := 19) (oi := ⟨some 145, _, _, _, _, _⟩) (v := _) rfl (by kernel_rfl) (by kernel_rfl) (by kernel_rfl) (fun _ _ _ h => h) (Or.inl ⟨by rfl, ?y19qD⟩) hS0 ?r19qD
              case y19qD =>
                intro w' hSw
                obtain ⟨a0, a1, e0⟩ := HCX.out _ (hZ2.trans (hSw.mono hZ2.size)); obtain ⟨d0, d1, d2⟩ := HD.out _ hSw
                go_simp
                try simp only [j1, j2, j3]
                try rfl
              try simp only [Act.put, List.setIfInBounds_toArray, List.set_cons_zero, List.set_cons_succ]
              refine' wpAnyH_take (i := 20) (oi := ⟨some 146, _, _, _, _, _⟩) (v := _) rfl (by kernel_rfl) (by kernel_rfl) (by kernel_rfl) (fun _ _ _ h => h) (Or.inl ⟨by rfl, ?y20qD⟩) hS0 ?r20qD
              case y20qD =>
                intro w' hSw
                obtain ⟨a0, a1, e0⟩ := HCX.out _ (hZ2.trans (hSw.mono hZ2.size)); obtain ⟨d0, d1, d2⟩ := HD.out _ hSw
                go_simp
                try simp only [j1, j2, j3]
                try rfl
              try simp only [Act.put, List.setIfInBounds_toArray, List.set_cons_zero, List.set_cons_succ]
              refine' wpAnyH_take (i := 21) (oi := ⟨some 147, _, _, _, _, _⟩) (v := _) rfl (by kernel_rfl) (by kernel_rfl) (by kernel_rfl) (fun _ _ _ h => h) (Or.inl ⟨by rfl, ?y21qD⟩) hS0 ?r21qD
              case y21qD =>
                intro w' hSw
                obtain ⟨a0, a1, e0⟩ := HCX.out _ (hZ2.trans (hSw.mono hZ2.size)); obtain ⟨d0, d1, d2⟩ := HD.out _ hSw
                go_simp
                try simp only [j1, j2, j3]
                try rfl
              try simp only [Act.put, List.setIfInBounds_toArray, List.set_cons_zero, List.set_cons_succ]
              refine' wpAnyH_take (i := 22) (oi := ⟨some 148, _, _, _, _, _⟩) (v := (.bool true)) rfl (by kernel_rfl) (by kernel_rfl) (by kernel_rfl) (fun _ _ _ h => h) (Or.inl ⟨by rfl, ?y22qD⟩) hS0 ?r22qD
              case y22qD =>
                intro w' hSw
                obtain ⟨a0, a1, e0⟩ := HCX.out _ (hZ2.trans (hSw.mono hZ2.size)); obtain ⟨d0, d1, d2⟩ := HD.out _ hSw
                go_simp
                try simp only [j1, j2, j3]
                try rfl
              try simp only [Act.put, List.setIfInBounds_toArray, List.set_cons_zero, List.set_cons_succ]
              refine' wpAnyH_take (i := 23) (oi := ⟨some 149, _, _, _, _, _⟩) (v := (.bool true)) rfl (by kernel_rfl) (by kernel_rfl) (by kernel_rfl) (fun _ _ _ h => h) (Or.inl ⟨by rfl, ?y23qD⟩) hS0 ?r23qD
              case y23qD =>
                intro w' hSw
                obtain ⟨a0, a1, e0⟩ := HCX.out _ (hZ2.trans (hSw.mono hZ2.size)); obtain ⟨d0, d1, d2⟩ := HD.out _ hSw
                go_simp
                try simp only [j1, j2, j3]
                try rfl
              try simp only [Act.put, List.setIfInBounds_toArray, List.set_cons_zero, List.set_cons_succ]
              refine' wpAnyH_take (i := 24) (oi := ⟨some 150, _, _, _, _, _⟩) (v := _) rfl (by kernel_rfl) (by kernel_rfl) (by kernel_rfl) (fun _ _ _ h => h) (Or.inl ⟨by rfl, ?y24qD⟩) hS0 ?r24qD
              case y24qD =>
                intro w' hSw
                obtain ⟨a0, a1, e0⟩ := HCX.out _ (hZ2.trans (hSw.mono hZ2.size)); obtain ⟨d0, d1, d2⟩ := HD.out _ hSw
                go_simp
                try simp only [j1, j2, j3]
                try rfl
              try simp only [Act.put, List.setIfInBounds_toArray, List.set_cons_zero, List.set_cons_succ]
              refine' wpAnyH_take (i := 25) (oi := ⟨some 151, _, _, _, _, _⟩) (v := _) rfl (by kernel_rfl) (by kernel_rfl) (by kernel_rfl) (fun _ _ _ h => h) (Or.inl ⟨by rfl, ?y25qD⟩) hS0 ?r25qD
              case y25qD =>
                intro w' hSw
                obtain ⟨a0, a1, e0⟩ := HCX.out _ (hZ2.trans (hSw.mono hZ2.size)); obtain ⟨d0, d1, d2⟩ := HD.out _ hSw
                go_simp
                try simp only [j1, j2, j3]
                try rfl
              try simp only [Act.put, List.setIfInBounds_toArray, List.set_cons_zero, List.set_cons_succ]
              refine' wpAnyH_take (i := 26) (oi := ⟨some 152, _, _, _, _, _⟩) (v := _) rfl (by kernel_rfl) (by kernel_rfl) (by kernel_rfl) (fun _ _ _ h => h) (Or.inl ⟨by rfl, ?y26qD⟩) hS0 ?r26qD
              case y26qD =>
                intro w' hSw
                obtain ⟨a0, a1, e0⟩ := HCX.out _ (hZ2.trans (hSw.mono hZ2.size)); obtain ⟨d0, d1, d2⟩ := HD.out _ hSw
                go_simp
                try simp only [j1, j2, j3]
                try rfl
              try simp only [Act.put, List.setIfInBounds_toArray, List.set_cons_zero, List.set_cons_succ]
              refine' wpAnyH_take (i := 27) (oi := ⟨some 153, _, _, _, _, _⟩) (v := _) rfl (by kernel_rfl) (by kernel_rfl) (by kernel_rfl) (fun _ _ _ h => h) (Or.inl ⟨by rfl, ?y27qD⟩) hS0 ?r27qD
              case y27qD =>
                intro w' hSw
                obtain ⟨a0, a1, e0⟩ := HCX.out _ (hZ2.trans (hSw.mono hZ2.size)); obtain ⟨d0, d1, d2⟩ := HD.out _ hSw
                go_simp
                try simp only [j1, j2, j3]
                try rfl
              try simp only [Act.put, List.setIfInBounds_toArray, List.set_cons_zero, List.set_cons_succ]
              refine' wpAnyH_take (i := 28) (oi := ⟨some 154, _, _, _, _, _⟩) (v := _) rfl (by kernel_rfl) (by kernel_rfl) (by kernel_rfl) (fun _ _ _ h => h) (Or.inl ⟨by rfl, ?y28qD⟩) hS0 ?r28qD
              case y28qD =>
                intro w' hSw
                obtain ⟨a0, a1, e0⟩ := HCX.out _ (hZ2.trans (hSw.mono hZ2.size)); obtain ⟨d0, d1, d2⟩ := HD.out _ hSw
                go_simp
                try simp only [j1, j2, j3]
                try rfl
              try simp only [Act.put, List.setIfInBounds_toArray, List.set_cons_zero, List.set_cons_succ]
              refine' wpAnyH_take (i := 29) (oi := ⟨some 155, _, _, _, _, _⟩) (v := _) rfl (by kernel_rfl) (by kernel_rfl) (by kernel_rfl) (fun _ _ _ h => h) (Or.inl ⟨by rfl, ?y29qD⟩) hS0 ?r29qD
              case y29qD =>
                intro w' hSw
                obtain ⟨a0, a1, e0⟩ := HCX.out _ (hZ2.trans (hSw.mono hZ2.size)); obtain ⟨d0, d1, d2⟩ := HD.out _ hSw
                go_simp
                try simp only [j1, j2, j3]
                try rfl
              try simp only [Act.put, List.setIfInBounds_toArray, List.set_cons_zero, List.set_cons_succ]
              refine' wpAnyH_take (i := 30) (oi := ⟨some 156, _, _, _, _, _⟩) (v := _) rfl (by kernel_rfl) (by kernel_rfl) (by kernel_rfl) (fun _ _ _ h => h) (Or.inl ⟨by rfl, ?y30qD⟩) hS0 ?r30qD
              case y30qD =>
                intro w' hSw
                obtain ⟨a0, a1, e0⟩ := HCX.out _ (hZ2.trans (hSw.mono hZ2.size)); obtain ⟨d0, d1, d2⟩ := HD.out _ hSw
                go_simp
                try simp only [j1, j2, j3]
                try rfl
              try simp only [Act.put, List.setIfInBounds_toArray, List.set_cons_zero, List.set_cons_succ]
              refine' wpAnyH_take (i := 31) (oi := ⟨some 157, _, _, _, _, _⟩) (v := _) rfl (by kernel_rfl) (by kernel_rfl) (by kernel_rfl) (fun _ _ _ h => h) (Or.inl ⟨by rfl, ?y31qD⟩) hS0 ?r31qD
              case y31qD =>
                intro w' hSw
                obtain ⟨a0, a1, e0⟩ := HCX.out _ (hZ2.trans (hSw.mono hZ2.size)); obtain ⟨d0, d1, d2⟩ := HD.out _ hSw
                go_simp
                try simp only [j1, j2, j3]
                try rfl
              try simp only [Act.put, List.setIfInBounds_toArray, List.set_cons_zero, List.set_cons_succ]
              refine' wpAnyH_take (i := 32) (oi := ⟨some 158, _, _, _, _, _⟩) (v := _) rfl (by kernel_rfl) (by kernel_rfl) (by kernel_rfl) (fun _ _ _ h => h) (Or.inl ⟨by rfl, ?y32qD⟩) hS0 ?r32qD
              case y32qD =>
                intro w' hSw
                obtain ⟨a0, a1, e0⟩ := HCX.out _ (hZ2.trans (hSw.mono hZ2.size)); obtain ⟨d0, d1, d2⟩ := HD.out _ hSw
                go_simp
                try simp only [j1, j2, j3]
                try rfl
              try simp only [Act.put, List.setIfInBounds_toArray, List.set_cons_zero, List.set_cons_succ]
              refine' wpAnyH_take (i := 33) (oi := ⟨some 159, _, _, _, _, _⟩) (v := _) rfl (by kernel_rfl) (by kernel_rfl) (by kernel_rfl) (fun _ _ _ h => h) (Or.inl ⟨by rfl, ?y33qD⟩) hS0 ?r33qD
              case y33qD =>
                intro w' hSw
                obtain ⟨a0, a1, e0⟩ := HCX.out _ (hZ2.trans (hSw.mono hZ2.size)); obtain ⟨d0, d1, d2⟩ := HD.out _ hSw
                go_simp
                try simp only [j1, j2, j3]
                try rfl
              try simp only [Act.put, List.setIfInBounds_toArray, List.set_cons_zero, List.set_cons_succ]
              refine' wpAnyH_take (i := 34) (oi := ⟨some 160, _, _, _, _, _⟩) (v := (.bool false)) rfl (by kernel_rfl) (by kernel_rfl) (by kernel_rfl) (fun _ _ _ h => h) (Or.inl ⟨by rfl, ?y34qD⟩) hS0 ?r34qD
              case y34qD =>
                intro w' hSw
                obtain ⟨a0, a1, e0⟩ := HCX.out _ (hZ2.trans (hSw.mono hZ2.size)); obtain ⟨d0, d1, d2⟩ := HD.out _ hSw
                go_simp
                try simp only [j1, j2, j3]
                try rfl
              try simp only [Act.put, List.setIfInBounds_toArray, List.set_cons_zero, List.set_cons_succ]
              refine' wpAnyH_take (i := 35) (oi := ⟨some 161, _, _, _, _, _⟩) (v := (.bool false)) rfl (by kernel_rfl) (by kernel_rfl) (by kernel_rfl) (fun _ _ _ h => h) (Or.inl ⟨by rfl, ?y35qD⟩) hS0 ?r35qD
              case y35qD =>
                intro w' hSw
                obtain ⟨a0, a1, e0⟩ := HCX.out _ (hZ2.trans (hSw.mono hZ2.size)); obtain ⟨d0, d1, d2⟩ := HD.out _ hSw
                go_simp
                try simp only [j1, j2, j3]
                try rfl
              try simp only [Act.put, List.setIfInBounds_toArray, List.set_cons_zero, List.set_cons_succ]
              refine' wpAnyH_take (i := 36) (oi := ⟨some 162, _, _, _, _, _⟩) (v := (.bool false)) rfl (by kernel_rfl) (by kernel_rfl) (by kernel_rfl) (fun _ _ _ h => h) (Or.inl ⟨by rfl, ?y36qD⟩) hS0 ?r36qD
              case y36qD =>
                intro w' hSw
                obtain ⟨a0, a1, e0⟩ := HCX.out _ (hZ2.trans (hSw.mono hZ2.size)); obtain ⟨d0, d1, d2⟩ := HD.out _ hSw
                go_simp
                try simp only [j1, j2, j3]
                try rfl
              try simp only [Act.put, List.setIfInBounds_toArray, List.set_cons_zero, List.set_cons_succ]
              refine wpAnyH_done (by kernel_rfl) ?_ _
              go_wp2
              go_roundw
              case rel => exact ⟨k2 + 1, f2, by omega, by go_num, rfl, hS0, by omega, Lib.hid (HNO.out HL.out)⟩
              case measure => simp [intOf]; omega
            · have HL := Lib.hid (show ¬ Le u q by unfold Le; omega)
              have j1 : decide (u.1 < q.1) = false := decide_eq_false (by omega)
              have j2 : (u.1 == q.1) = false := by simp [e2]
              have j3 : True := trivial
              refine wp_region_held_drew (S := fun Z => Below Z2.heap.size Z2 Z) hfo (hbr.trans ((show Below wr.heap.size wr wr.drew from (Below.refl _ _).drew).mono hbr.size)) (fun hS0 => ?_)
              generalize wr.drew = wy at hS0 ⊢
              refine' wpAnyH_take (i := 0) (oi := ⟨some 126, _, _, _, _, _⟩) (v := _) rfl (by kernel_rfl) (by kernel_rfl) (by kernel_rfl) (fun _ _ _ h => h) (Or.inl ⟨by rfl, ?y0qE⟩) hS0 ?r0qE
              case y0qE =>
                intro w' hSw
                obtain ⟨a0, a1, e0⟩ := HCX.out _ (hZ2.trans (hSw.mono hZ2.size)); obtain ⟨d0, d1, d2⟩ := HD.out _ hSw
                go_simp
                try simp only [j1, j2, j3]
                try rfl
              try simp only [Act.put, List.setIfInBounds_toArray, List.set_cons_zero, List.set_cons_succ]
              refine' wpAnyH_take (i := 1) (oi := ⟨some 127, _, _, _, _, _⟩) (v := _) rfl (by kernel_rfl) (by kernel_rfl) (by kernel_rfl) (fun _ _ _ h => h) (Or.inl ⟨by rfl, ?y1qE⟩) hS0 ?r1qE
              case y1qE =>
                intro w' hSw
                obtain ⟨a0, a1, e0⟩ := HCX.out _ (hZ2.trans (hSw.mono hZ2.size)); obtain ⟨d0, d1, d2⟩ := HD.out _ hSw
                go_simp
                try simp only [j1, j2, j3]
                try rfl
              try simp only [Act.put, List.setIfInBounds_toArray, List.set_cons_zero, List.set_cons_succ]
              refine' wpAnyH_take (i := 2) (oi := ⟨some 128, _, _, _, _, _⟩) (v := _) rfl (by kernel_rfl) (by kernel_rfl) (by kernel_rfl) (fun _ _ _ h => h) (Or.inl ⟨by rfl, ?y2qE⟩) hS0 ?r2qE
              case y2qE =>
                intro w' hSw
                obtain ⟨a0, a1, e0⟩ := HCX.out _ (hZ2.trans (hSw.mono hZ2.size)); obtain ⟨d0, d1, d2⟩ := HD.out _ hSw
                go_simp
                try simp only [j1, j2, j3]
                try rfl
              try simp only [Act.put, List.setIfInBounds_toArray, List.set_cons_zero, List.set_cons_succ]
              refine' wpAnyH_take (i := 3) (oi := ⟨some 129, _, _, _, _, _⟩) (v := _) rfl (by kernel_rfl) (by kernel_rfl) (by kernel_rfl) (fun _ _ _ h => h) (Or.inl ⟨by rfl, ?y3qE⟩) hS0 ?r3qE
              case y3qE =>
                intro w' hSw
                obtain ⟨a0, a1, e0⟩ := HCX.out _ (hZ2.trans (hSw.mono hZ2.size)); obtain ⟨d0, d1, d2⟩ := HD.out _ hSw
                go_simp
                try simp only [j1, j2, j3]
                try rfl
              try simp only [Act.put, List.setIfInBounds_toArray, List.set_cons_zero, List.set_cons_succ]
              refine' wpAnyH_take (i := 4) (oi := ⟨some 130, _, _, _, _, _⟩) (v := _) rfl (by kernel_rfl) (by kernel_rfl) (by kernel_rfl) (fun _ _ _ h => h) (Or.inl ⟨by rfl, ?y4qE⟩) hS0 ?r4qE
              case y4qE =>
                intro w' hSw
                obtain ⟨a0, a1, e0⟩ := HCX.out _ (hZ2.trans (hSw.mono hZ2.size)); obtain ⟨d0, d1, d2⟩ := HD.out _ hSw
                go_simp
                try simp only [j1, j2, j3]
                try rfl
              try simp only [Act.put, List.setIfInBounds_toArray, List.set_cons_zero, List.set_cons_succ]
              refine' wpAnyH_take (i := 5) (oi := ⟨some 131, _, _, _, _, _⟩) (v := _) rfl (by kernel_rfl) (by kernel_rfl) (by kernel_rfl) (fun _ _ _ h => h) (Or.inl ⟨by rfl, ?y5qE⟩) hS0 ?r5qE
              case y5qE =>
                intro w' hSw
                obtain ⟨a0, a1, e0⟩ := HCX.out _ (hZ2.trans (hSw.mono hZ2.size)); obtain ⟨d0, d1, d2⟩ := HD.out _ hSw
                go_simp
                try simp only [j1, j2, j3]
                try rfl
              try simp only [Act.put, List.setIfInBounds_toArray, List.set_cons_zero, List.set_cons_succ]
              refine' wpAnyH_take (i := 6) (oi := ⟨some 132, _, _, _, _, _⟩) (v := _) rfl (by kernel_rfl) (by kernel_rfl) (by kernel_rfl) (fun _ _ _ h => h) (Or.inl ⟨by rfl, ?y6qE⟩) hS0 ?r6qE
              case y6qE =>
                intro w' hSw
                obtain ⟨a0, a1, e0⟩ := HCX.out _ (hZ2.trans (hSw.mono hZ2.size)); obtain ⟨d0, d1, d2⟩ := HD.out _ hSw
                go_simp
                try simp only [j1, j2, j3]
                try rfl
              try simp only [Act.put, List.setIfInBounds_toArray, List.set_cons_zero, List.set_cons_succ]
              refine' wpAnyH_take (i := 7) (oi := ⟨some 133, _, _, _, _, _⟩) (v := _) rfl (by kernel_rfl) (by kernel_rfl) (by kernel_rfl) (fun _ _ _ h => h) (Or.inl ⟨by rfl, ?y7qE⟩) hS0 ?r7qE
              case y7qE =>
                intro w' hSw
                obtain ⟨a0, a1, e0⟩ := HCX.out _ (hZ2.trans (hSw.mono hZ2.size)); obtain ⟨d0, d1, d2⟩ := HD.out _ hSw
                go_simp
                try simp only [j1, j2, j3]
                try rfl
              try simp only [Act.put, List.setIfInBounds_toArray, List.set_cons_zero, List.set_cons_succ]
              refine' wpAnyH_take (i := 8) (oi := ⟨some 134, _, _, _, _, _⟩) (v := _) rfl (by kernel_rfl) (by kernel_rfl) (by kernel_rfl) (fun _ _ _ h => h) (Or.inl ⟨by rfl, ?y8qE⟩) hS0 ?r8qE
              case y8qE =>
                intro w' hSw
                obtain ⟨a0, a1, e0⟩ := HCX.out _ (hZ2.trans (hSw.mono hZ2.size)); obtain ⟨d0, d1, d2⟩ := HD.out _ hSw
                go_simp
                try simp only [j1, j2, j3]
                try rfl
              try simp only [Act.put, List.setIfInBounds_toArray, List.set_cons_zero, List.set_cons_succ]
              refine' wpAnyH_take (i := 9) (oi := ⟨some 135, _, _, _, _, _⟩) (v := _) rfl (by kernel_rfl) (by kernel_rfl) (by kernel_rfl) (fun _ _ _ h => h) (Or.inl ⟨by rfl, ?y9qE⟩) hS0 ?r9qE
              case y9qE =>
                intro w' hSw
                obtain ⟨a0, a1, e0⟩ := HCX.out _ (hZ2.trans (hSw.mono hZ2.size)); obtain ⟨d0, d1, d2⟩ := HD.out _ hSw
                go_simp
                try simp only [j1, j2, j3]
                try rfl
              try simp only [Act.put, List.setIfInBounds_toArray, List.set_cons_zero, List.set_cons_succ]
              refine' wpAnyH_take (i := 10) (oi := ⟨some 136, _, _, _, _, _⟩) (v := (.bool false)) rfl (by kernel_rfl) (by kernel_rfl) (by kernel_rfl) (fun _ _ _ h => h) (Or.inl ⟨by rfl, ?y10qE⟩) hS0 ?r10qE
              case y10qE =>
                intro w' hSw
                obtain ⟨a0, a1, e0⟩ := HCX.out _ (hZ2.trans (hSw.mono hZ2.size)); obtain ⟨d0, d1, d2⟩ := HD.out _ hSw
                go_simp
                try simp only [j1, j2, j3]
                try rfl
              try simp only [Act.put, List.setIfInBounds_toArray, List.set_cons_zero, List.set_cons_succ]
              refine' wpAnyH_take (i := 11) (oi := ⟨some 137, _, _, _, _, _⟩) (v := (.bool false)) rfl (by kernel_rfl) (by kernel_rfl) (by kernel_rfl) (fun _ _ _ h => h) (Or.inl ⟨by rfl, ?y11qE⟩) hS0 ?r11qE
              case y11qE =>
                intro w' hSw
                obtain ⟨a0, a1, e0⟩ := HCX.out _ (hZ2.trans (hSw.mono hZ2.size)); obtain ⟨d0, d1, d2⟩ := HD.out _ hSw
                go_simp
                try simp only [j1, j2, j3]
                try rfl
              try simp only [Act.put, List.setIfInBounds_toArray, List.set_cons_zero, List.set_cons_succ]
              refine' wpAnyH_take (i := 12) (oi := ⟨some 138, _, _, _, _, _⟩) (v := _) rfl (by kernel_rfl) (by kernel_rfl) (by kernel_rfl) (fun _ _ _ h => h) (Or.inl ⟨by rfl, ?y12qE⟩) hS0 ?r12qE
              case y12qE =>
                intro w' hSw
                obtain ⟨a0, a1, e0⟩ := HCX.out _ (hZ2.trans (hSw.mono hZ2.size)); obtain ⟨d0, d1, d2⟩ := HD.out _ hSw
                go_simp
                try simp only [j1, j2, j3]
                try rfl
              try simp only [Act.put, List.setIfInBounds_toArray, List.set_cons_zero, List.set_cons_succ]
              refine' wpAnyH_take (i := 13) (oi := ⟨some 139, _, _, _, _, _⟩) (v := _) rfl (by kernel_rfl) (by kernel_rfl) (by kernel_rfl) (fun _ _ _ h => h) (Or.inl ⟨by rfl, ?y13qE⟩) hS0 ?r13qE
              case y13qE =>
                intro w' hSw
                obtain ⟨a0, a1, e0⟩ := HCX.out _ (hZ2.trans (hSw.mono hZ2.size)); obtain ⟨d0, d1, d2⟩ := HD.out _ hSw
                go_simp
                try simp only [j1, j2, j3]
                try rfl
              try simp only [Act.put, List.setIfInBounds_toArray, List.set_cons_zero, List.set_cons_succ]
              refine' wpAnyH_take (i := 14) (oi := ⟨some 140, _, _, _, _, _⟩) (v := _) rfl (by kernel_rfl) (by kernel_rfl) (by kernel_rfl) (fun _ _ _ h => h) (Or.inl ⟨by rfl, ?y14qE⟩) hS0 ?r14qE
              case y14qE =>
                intro w' hSw
                obtain ⟨a0, a1, e0⟩ := HCX.out _ (hZ2.trans (hSw.mono hZ2.size)); obtain ⟨d0, d1, d2⟩ := HD.out _ hSw
                go_simp
                try simp only [j1, j2, j3]
                try rfl
              try simp only [Act.put, List.setIfInBounds_toArray, List.set_cons_zero, List.set_cons_succ]
              refine' wpAnyH_take (i := 15) (oi := ⟨some 141, _, _, _, _, _⟩) (v := _) rfl (by kernel_rfl) (by kernel_rfl) (by kernel_rfl) (fun _ _ _ h => h) (Or.inl ⟨by rfl, ?y15qE⟩) hS0 ?r15qE
              case y15qE =>
                intro w' hSw
                obtain ⟨a0, a1, e0⟩ := HCX.out _ (hZ2.trans (hSw.mono hZ2.size)); obtain ⟨d0, d1, d2⟩ := HD.out _ hSw
                go_simp
                try simp only [j1, j2, j3]
                try rfl
              try simp only [Act.put, List.setIfInBounds_toArray, List.set_cons_zero, List.set_cons_succ]
              refine' wpAnyH_take (i := 16) (oi := ⟨some 142, _, _, _, _, _⟩) (v := _) rfl (by kernel_rfl) (by kernel_rfl) (by kernel_rfl) (fun _ _ _ h => h) (Or.inl ⟨by rfl, ?y16qE⟩) hS0 ?r16qE
              case y16qE =>
                intro w' hSw
                obtain ⟨a0, a1, e0⟩ := HCX.out _ (hZ2.trans (hSw.mono hZ2.size)); obtain ⟨d0, d1, d2⟩ := HD.out _ hSw
                go_simp
                try simp only [j1, j2, j3]
                try rfl
              try simp only [Act.put, List.setIfInBounds_toArray, List.set_cons_zero, List.set_cons_succ]
              refine' wpAnyH_take (i := 17) (oi := ⟨some 143, _, _, _, _, _⟩) (v := _) rfl (by kernel_rfl) (by kernel_rfl) (by kernel_rfl) (fun _ _ _ h => h) (Or.inl ⟨by rfl, ?y17qE⟩) hS0 ?r17qE
              case y17qE =>
                intro w' hSw
                obtain ⟨a0, a1, e0⟩ := HCX.out _ (hZ2.trans (hSw.mono hZ2.size)); obtain ⟨d0, d1, d2⟩ := HD.out _ hSw
                go_simp
                try simp only [j1, j2, j3]
                try rfl
              try simp only [Act.put, List.setIfInBounds_toArray, List.set_cons_zero, List.set_cons_succ]
              refine' wpAnyH_take (i := 18) (oi := ⟨some 144, _, _, _, _, _⟩) (v := _) rfl (by kernel_rfl) (by kernel_rfl) (by kernel_rfl) (fun _ _ _ h => h) (Or.inl ⟨by rfl, ?y18qE⟩) hS0 ?r18qE
              case y18qE =>
                intro w' hSw
                obtain ⟨a0, a1, e0⟩ := HCX.out _ (hZ2.trans (hSw.mono hZ2.size)); obtain ⟨d0, d1, d2⟩ := HD.out _ hSw
                go_simp
                try simp only [j1, j2, j3]
                try rfl
              try simp only [Act.put, List.setIfInBounds_toArray, List.set_cons_zero, List.set_cons_succ]
              refine' wpAnyH_take (i := 19) (oi := ⟨some 145, _, _, _, _, _⟩) (v := _) rfl (by kernel_rfl) (by kernel_rfl) (by kernel_rfl) (fun _ _ _ h => h) (Or.inl ⟨by rfl, ?y19qE⟩) hS0 ?r19qE
              case y19qE =>
                intro w' hSw
                obtain ⟨a0, a1, e0⟩ := HCX.out _ (hZ2.trans (hSw.mono hZ2.size)); obtain ⟨d0, d1, d2⟩ := HD.out _ hSw
                go_simp
                try simp only [j1, j2, j3]
                try rfl
              try simp only [Act.put, List.setIfInBounds_toArray, List.set_cons_zero, List.set_cons_succ]
              refine' wpAnyH_take (i := 20) (oi := ⟨some 146, _, _, _, _, _⟩) (v := _) rfl (by kernel_rfl) (by kernel_rfl) (by kernel_rfl) (fun _ _ _ h => h) (Or.inl ⟨by rfl, ?y20qE⟩) hS0 ?r20qE
              case y20qE =>
                intro w' hSw
                obtain ⟨a0, a1, e0⟩ := HCX.out _ (hZ2.trans (hSw.mono hZ2.size)); obtain ⟨d0, d1, d2⟩ := HD.out _ hSw
                go_simp
                try simp only [j1, j2, j3]
                try rfl
              try simp only [Act.put, List.setIfInBounds_toArray, List.set_cons_zero, List.set_cons_succ]
              refine' wpAnyH_take (i := 21) (oi := ⟨some 147, _, _, _, _, _⟩) (v := _) rfl (by kernel_rfl) (by kernel_rfl) (by kernel_rfl) (fun _ _ _ h => h) (Or.inl ⟨by rfl, ?y21qE⟩) hS0 ?r21qE
              case y21qE =>
                intro w' hSw
                obtain ⟨a0, a1, e0⟩ := HCX.out _ (hZ2.trans (hSw.mono hZ2.size)); obtain ⟨d0, d1, d2⟩ := HD.out _ hSw
                go_simp
                try simp only [j1, j2, j3]
                try rfl
              try simp only [Act.put, List.setIfInBounds_toArray, List.set_cons_zero, List.set_cons_succ]
              refine' wpAnyH_take (i := 22) (oi := ⟨some 148, _, _, _, _, _⟩) (v := (.bool false)) rfl (by kernel_rfl) (by kernel_rfl) (by kernel_rfl) (fun _ _ _ h => h) (Or.inl ⟨by rfl, ?y22qE⟩) hS0 ?r22qE
              case y22qE =>
                intro w' hSw
                obtain ⟨a0, a1, e0⟩ := HCX.out _ (hZ2.trans (hSw.mono hZ2.size)); obtain ⟨d0, d1, d2⟩ := HD.out _ hSw
                go_simp
                try simp only [j1, j2, j3]
                try rfl
              try simp only [Act.put, List.setIfInBounds_toArray, List.set_cons_zero, List.set_cons_succ]
              refine' wpAnyH_take (i := 23) (oi := ⟨some 149, _, _, _, _, _⟩) (v := (.bool false)) rfl (by kernel_rfl) (by kernel_rfl) (by kernel_rfl) (fun _ _ _ h => h) (Or.inl ⟨by rfl, ?y23qE⟩) hS0 ?r23qE
              case y23qE =>
                intro w' hSw
                obtain ⟨a0, a1, e0⟩ := HCX.out _ (hZ2.trans (hSw.mono hZ2.size)); obtain ⟨d0, d1, d2⟩ := HD.out _ hSw
                go_simp
                try simp only [j1, j2, j3]
                try rfl
              try simp only [Act.put, List.setIfInBounds_toArray, List.set_cons_zero, List.set_cons_succ]
              refine' wpAnyH_take (i := 24) (oi := ⟨some 150, _, _, _, _, _⟩) (v := undef) rfl (by kernel_rfl) (by kernel_rfl) (by kernel_rfl) (fun _ _ _ h => h) (Or.inr ⟨by rfl, rfl⟩) hS0 ?r24qE
              try simp only [Act.put, List.setIfInBounds_toArray, List.set_cons_zero, List.set_cons_succ]
              refine' wpAnyH_take (i := 25) (oi := ⟨some 151, _, _, _, _, _⟩) (v := undef) rfl (by kernel_rfl) (by kernel_rfl) (by kernel_rfl) (fun _ _ _ h => h) (Or.inr ⟨by rfl, rfl⟩) hS0 ?r25qE
              try simp only [Act.put, List.setIfInBounds_toArray, List.set_cons_zero, List.set_cons_succ]
              refine' wpAnyH_take (i := 26) (oi := ⟨some 152, _, _, _, _, _⟩) (v := undef) rfl (by kernel_rfl) (by kernel_rfl) (by kernel_rfl) (fun _ _ _ h => h) (Or.inr ⟨by rfl, rfl⟩) hS0 ?r26qE
              try simp only [Act.put, List.setIfInBounds_toArray, List.set_cons_zero, List.set_cons_succ]
              refine' wpAnyH_take (i := 27) (oi := ⟨some 153, _, _, _, _, _⟩) (v := undef) rfl (by kernel_rfl) (by kernel_rfl) (by kernel_rfl) (fun _ _ _ h => h) (Or.inr ⟨by rfl, rfl⟩) hS0 ?r27qE
              try simp only [Act.put, List.setIfInBounds_toArray, List.set_cons_zero, List.set_cons_succ]
              refine' wpAnyH_take (i := 28) (oi := ⟨some 154, _, _, _, _, _⟩) (v := undef) rfl (by kernel_rfl) (by kernel_rfl) (by kernel_rfl) (fun _ _ _ h => h) (Or.inr ⟨by rfl, rfl⟩) hS0 ?r28qE
              try simp only [Act.put, List.setIfInBounds_toArray, List.set_cons_zero, List.set_cons_succ]
              refine' wpAnyH_take (i := 29) (oi := ⟨some 155, _, _, _, _, _⟩) (v := undef) rfl (by kernel_rfl) (by kernel_rfl) (by kernel_rfl) (fun _ _ _ h => h) (Or.inr ⟨by rfl, rfl⟩) hS0 ?r29qE
              try simp only [Act.put, List.setIfInBounds_toArray, List.set_cons_zero, List.set_cons_succ]
              refine' wpAnyH_take (i := 30) (oi := ⟨some 156, _, _, _, _, _⟩) (v := undef) rfl (by kernel_rfl) (by kernel_rfl) (by kernel_rfl) (fun _ _ _ h => h) (Or.inr ⟨by rfl, rfl⟩) hS0 ?r30qE
              try simp only [Act.put, List.setIfInBounds_toArray, List.set_cons_zero, List.set_cons_succ]
              refine' wpAnyH_take (i := 31) (oi := ⟨some 157, _, _, _, _, _⟩) (v := undef) rfl (by kernel_rfl) (by kernel_rfl) (by kernel_rfl) (fun _ _ _ h => h) (Or.inr ⟨by rfl, rfl⟩) hS0 ?r31qE
              try simp only [Act.put, List.setIfInBounds_toArray, List.set_cons_zero, List.set_cons_succ]
              refine' wpAnyH_take (i := 32) (oi := ⟨some 158, _, _, _, _, _⟩) (v := undef) rfl (by kernel_rfl) (by kernel_rfl) (by kernel_rfl) (fun _ _ _ h => h) (Or.inr ⟨by rfl, rfl⟩) hS0 ?r32qE
              try simp only [Act.put, List.setIfInBounds_toArray, List.set_cons_zero, List.set_cons_succ]
              refine' wpAnyH_take (i := 33) (oi := ⟨some 159, _, _, _, _, _⟩) (v := undef) rfl (by kernel_rfl) (by kernel_rfl) (by kernel_rfl) (fun _ _ _ h => h) (Or.inr ⟨by rfl, rfl⟩) hS0 ?r33qE
              try simp only [Act.put, List.setIfInBounds_toArray, List.set_cons_zero, List.set_cons_succ]
              refine' wpAnyH_take (i := 34) (oi := ⟨some 160, _, _, _, _, _⟩) (v := undef) rfl (by kernel_rfl) (by kernel_rfl) (by kernel_rfl) (fun _ _ _ h => h) (Or.inr ⟨by rfl, rfl⟩) hS0 ?r34qE
              try simp only [Act.put, List.setIfInBounds_toArray, List.set_cons_zero, List.set_cons_succ]
              refine' wpAnyH_take (i := 35) (oi := ⟨some 161, _, _, _, _, _⟩) (v := (.bool false)) rfl (by kernel_rfl) (by kernel_rfl) (by kernel_rfl) (fun _ _ _ h => h) (Or.inl ⟨by rfl, ?y35qE⟩) hS0 ?r35qE
              case y35qE =>
                intro w' hSw
                obtain ⟨a0, a1, e0⟩ := HCX.out _ (hZ2.trans (hSw.mono hZ2.size)); obtain ⟨d0, d1, d2⟩ := HD.out _ hSw
                go_simp
                try simp only [j1, j2, j3]
                try rfl
              try simp only [Act.put, List.setIfInBounds_toArray, List.set_cons_zero, List.set_cons_succ]
              refine' wpAnyH_take (i := 36) (oi := ⟨some 162, _, _, _, _, _⟩) (v := (.bool false)) rfl (by kernel_rfl) (by kernel_rfl) (by kernel_rfl) (fun _ _ _ h => h) (Or.inl ⟨by rfl, ?y36qE⟩) hS0 ?r36qE
              case y36qE =>
                intro w' hSw
                obtain ⟨a0, a1, e0⟩ := HCX.out _ (hZ2.trans (hSw.mono hZ2.size)); obtain ⟨d0, d1, d2⟩ := HD.out _ hSw
                go_simp
                try simp only [j1, j2, j3]
                try rfl
              try simp only [Act.put, List.setIfInBounds_toArray, List.set_cons_zero, List.set_cons_succ]
              refine wpAnyH_done (by kernel_rfl) ?_ _
              go_wp2
              go_roundw
              case rel => exact ⟨k2 + 1, f2, by omega, by go_num, rfl, hS0, by omega, Lib.hid (HNO.out HL.out)⟩
              case measure => simp [intOf]; omega
          · obtain rfl : k2 = R.length := by omega
            have hf2 : f2 = spotOf R q := spot_eq R q f2 hfk (fun j h hj => hah.out.1 j h hj) (fun h => hah.out.2 f2 h (Nat.le_refl _) h)
            have hsp : f2 = spotOf V q := by rw [hf2, pv_spot HE.out]
            have h7r := hZ2.trans (hbr.mono hZ2.size)
            have hTr := HT7.out.below h7r
            have hwr := hw7.trans (h7r.mono hw7.size)
            have HTK := Lib.hid (two_take hTr hwr.size (f2 : Int) (by omega))
            have hxr := HX7.out.1.below h7r HX7.out.1.lt
            have hsr := HX7.out.2.below h7r
            have HSP := Lib.hid hsp
            clear hf2 hsp hah
            go_upto_region 26 with (go_at_call 19; refine HTK.out.mono ?_; rintro e Y1 ⟨n3, q3, u0, u1, u2, l3, rfl, k3, hs3, hty3, V3, hT3, hR3⟩)
            clear hcx
            have hR4 : n3 = 0 ∧ q3 = q ∧ l3 = l ∧ V3 = V := by
              have hat := lay_at V ⟨q, (s', l)⟩
              rcases hR3 with ⟨hc, _⟩ | ⟨j, hj, hz, h1, h2, h3, h4⟩
              · have h5 := spot_le V q
                have h6 := lay_len V ⟨q, (s', l)⟩
                have h7 := HSP.out
                omega
              · obtain rfl : j = f2 := by omega
                have h7 := HSP.out
                subst h7
                rw [List.getElem?_eq_getElem hj] at hat
                injection hat with hat
                rw [hat] at h2 h3
                exact ⟨h1, h2, h3, by rw [h4]; exact lay_erase V ⟨q, (s', l)⟩⟩
            obtain ⟨rfl, rfl, rfl, rfl⟩ := hR4
            have hwY := Keep.below hwr k3 hwr.size hTr.ge3
            have hal : Below Y1.heap.size Y1 (Y1.alloc (.cells #[.int .i64 q3.1, .int .i64 q3.2, .slice u0 u1 u2] 44)) := (Below.refl _ _).alloc (Nat.le_refl _) _
            have hy1 : Blk (Y1.alloc (.cells #[.int .i64 q3.1, .int .i64 q3.2, .slice u0 u1 u2] 44)) Y1.heap.size 44 #[.int .i64 q3.1, .int .i64 q3.2, .slice u0 u1 u2] := Blk.new Y1 _ _
            have hxk := hxr.kept k3 hg9
            have hx9 := hxk.below hal hxk.lt
            have hs9 := (InB.sl (s := (t0, t1, t2)) hsr k3 ht6).below hal
            have hs8 := hs3.below hal
            have hTY := hT3.below hal
            have hwZ := hwY.trans (hal.mono hwY.size)
            obtain ⟨g15, hgg⟩ : ∃ z, Y1.heap.size = z := ⟨_, rfl⟩
            rw [hgg] at hy1
            rw [hgg]
            generalize Y1.alloc (.cells #[.int .i64 q3.1, .int .i64 q3.2, .slice u0 u1 u2] 44) = Y2 at hy1 hx9 hs9 hs8 hTY hwZ ⊢
            clear hgg hal hxk hxr hsr hT3 hs3 hty3 HTK hTr
            have a0 : Y2.cell? ⟨g15, 0, none⟩ = some (.int .i64 q3.1) := by rw [hy1.cell]; rfl
            have a1 : Y2.cell? ⟨g15, 1, none⟩ = some (.int .i64 q3.2) := by rw [hy1.cell]; rfl
            have a2 : Y2.cell? ⟨g15, 2, none⟩ = some (.slice u0 u1 u2) := by rw [hy1.cell]; rfl
            have b0 : Y2.cell? ⟨g9, 0, none⟩ = some (.int .i64 q3.1) := by rw [hx9.cell]; rfl
            have b1 : Y2.cell? ⟨g9, 1, none⟩ = some (.int .i64 q3.2) := by rw [hx9.cell]; rfl
            have b2 : Y2.cell? ⟨g9, 2, none⟩ = some (.slice t0 t1 t2) := by rw [hx9.cell]; rfl
            have HSM := Lib.hid (show Calls Try.prog 26 #[.agg #[.int .i64 q3.1, .int .i64 q3.2, .slice u0 u1 u2], .agg #[.int .i64 q3.1, .int .i64 q3.2, .slice t0 t1 t2]] Y2 fun e W' => e = .returned (.bool true) ∧ Below Y2.heap.size Y2 W' from by
              have := same_any q3 q3 _ _ l3 l3 Y2 hs8 hs9
              rw [sameB_self] at this
              exact this)
            have HON := Lib.hid (show ∀ Z, Below Y2.heap.size Y2 Z → Calls Try.prog 27 #[.pointer (some ⟨p, 0, none⟩), .pointer (some ⟨x, 0, none⟩), .int .i64 0] Z fun e W' => e = .returned (.bool true) ∧ Below Z.heap.size Z W' from fun Z hZ => once_any (hTY.below hZ) HE.out 0)
            clear hy1 hx9 hs9 hs8
            go_wp2_with (first | (go_at_call 26; refine HSM.out.mono ?_; rintro e X3 ⟨rfl, hb3⟩) | (go_at_call 10; refine (num_any _ _).mono ?_; rintro e w2 ⟨rfl, hwd⟩; obtain rfl := hwd.symm) | (go_at_call 27; refine (HON.out X3 hb3).mono ?_; rintro e X4 ⟨rfl, hb4⟩) | (go_at_call 11; refine (nknown_any _).mono ?_; rintro e X5 ⟨rfl, hb5⟩))
            go_ret
            have h1 := hwZ.trans (hb3.mono hwZ.size)
            have h2 := h1.trans (hb4.mono h1.size)
            exact ⟨by simp, h2.trans (hb5.mono h2.size)⟩
end Go.Proofs.Ytellbmghahgjfaa

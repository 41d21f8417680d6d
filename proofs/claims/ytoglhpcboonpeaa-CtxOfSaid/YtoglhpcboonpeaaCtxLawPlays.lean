/-
  The walk of CtxPlays.
-/
import Derived.Test.YtoglhpcboonpeaaCtxRefN
import Derived.Test.YtoglhpcboonpeaaCtxKnown
namespace Go.Proofs.Ytoglhpcboonpeaa
open Go.RowKit
open CtxM
set_option linter.unusedVariables false
set_option linter.unusedSimpArgs false
set_option maxRecDepth 20000

/-- A context and a plain set of the same dots, apart from one another, made by the call. -/
structure Two (w : World) (B g h : Nat) (S : List Nat × List Dt) : Prop where
  is : ∃ v u, Cx w g v S.1 S.2 ∧ Sx w h u S.1 S.2 ∧ (∀ j, Foot g v j → ¬ Foot h u j) ∧ ∀ j, Foot g v j → B ≤ j
  lo : B ≤ h
theorem Two.below {w w' : World} {B g h : Nat} {S : List Nat × List Dt} (t : Two w B g h S) (hb : Below w.heap.size w w') : Two w' B g h S := by
  obtain ⟨v, u, hc, hs, hd, hl⟩ := t.is
  exact ⟨⟨v, u, hc.below hb, hs.below hb, hd, hl⟩, t.lo⟩
theorem addS_short (S : List Nat × List Dt) (d : Dt) : (addS S d).2.length ≤ S.2.length + 1 := by
  unfold addS
  split
  · exact addF_short S d
  · omega

/-- A dot is added to the context. -/
theorem two_add {w0 w : World} {B g h : Nat} {S : List Nat × List Dt} {d : Dt} (t : Two w B g h S) (hl : S.2.length < 4096) (hb : Below B w0 w) (hB : B ≤ w.heap.size) :
    Calls Try.prog 11 #[.pointer (some ⟨g, 0, none⟩), .agg #[.int .i64 d.1, .int .u64 (d.2 : Int)]] w fun e w' =>
      e = .returned (.tuple #[.bool (decide (May d ∧ ¬ In S.1 S.2 d)), .int .i64 (if May d then 0 else 2)]) ∧ Below B w0 w' ∧ B ≤ w'.heap.size ∧
      ∃ v u, Cx w' g v (addS S d).1 (addS S d).2 ∧ Sx w' h u S.1 S.2 ∧ (∀ j, Foot g v j → ¬ Foot h u j) ∧ ∀ j, Foot g v j → B ≤ j := by
  obtain ⟨v, u, hc, hs, hd, hlo⟩ := t.is
  refine (add_any g v S.1 S.2 d w hc hl).mono ?_
  rintro e w' ⟨rfl, v', h1, h2, h3⟩
  have hlt := hs.lt
  have hn : ∀ j, Foot g v' j → Foot g v j ∨ w.heap.size ≤ j := by
    rintro j (hj | hj)
    · exact .inl (.inl hj)
    · exact (h3 j hj).imp .inr id
  refine ⟨rfl, Keep.below hb h2 hB hlo, Nat.le_trans hB h2.size, v', u, h1, hs.kept h2 (fun j hj hk => hd j hk hj), fun j hj hk => (hn j hj).elim (fun h => hd j h hk) (fun h => by have := hlt j hk; omega), fun j hj => (hn j hj).elim (hlo j) (fun h => by omega)⟩
/-- .. and to the set. -/
theorem two_ref {w0 w : World} {B g h : Nat} {S : List Nat × List Dt} {d : Dt} (hM : May d) (t : ∃ v u, Cx w g v (addS S d).1 (addS S d).2 ∧ Sx w h u S.1 S.2 ∧ (∀ j, Foot g v j → ¬ Foot h u j) ∧ ∀ j, Foot g v j → B ≤ j) (hlo : B ≤ h) (hl : S.2.length ≤ 10000) (hb : Below B w0 w) (hB : B ≤ w.heap.size) :
    Calls Try.prog 14 #[.pointer (some ⟨h, 0, none⟩), .agg #[.int .i64 d.1, .int .u64 (d.2 : Int)]] w fun e w' =>
      e = .returned (.bool (decide (¬ In S.1 S.2 d))) ∧ Below B w0 w' ∧ B ≤ w'.heap.size ∧ Two w' B g h (addS S d) := by
  obtain ⟨v, u, hc, hs, hd, hfl⟩ := t
  refine (refAdd_any h u S.1 S.2 d w hs hM hl).mono ?_
  rintro e w' ⟨rfl, u', h1, h2, h3⟩
  have hlt := hc.lt
  have hn : ∀ j, Foot h u' j → Foot h u j ∨ w.heap.size ≤ j := by
    rintro j (hj | hj)
    · exact .inl (.inl hj)
    · exact (h3 j hj).imp .inr id
  have e1 : addS S d = addF S d := by unfold addS; rw [if_pos hM]
  have e2 : addF (S.1, S.2) d = addF S d := rfl
  rw [e2, ← e1] at h1
  refine ⟨rfl, Keep.below hb h2 hB (fun j hj => by omega), Nat.le_trans hB h2.size, ⟨⟨v, u', hc.kept h2 (fun j hj e => hd j hj (.inl e)), h1, fun j hj hk => (hn j hk).elim (hd j hj) (fun h => by have := hlt j hj; omega), hfl⟩, hlo⟩⟩
theorem two_same {w : World} {B g h : Nat} {S : List Nat × List Dt} (t : Two w B g h S) (hl : S.2.length ≤ 100000) :
    Calls Try.prog 15 #[.pointer (some ⟨g, 0, none⟩), .pointer (some ⟨h, 0, none⟩)] w fun e w' => e = .returned (.bool true) ∧ Below w.heap.size w w' := by
  obtain ⟨v, u, hc, hs, _, _⟩ := t.is
  exact same_eq g h v u S.1 S.2 w hc hs hl
/-- Both made. -/
theorem two_new {w w1 : World} (B : Nat) (hc : Cx w1 w.heap.size (.slice none 0 0) zeros []) (hB : B ≤ w.heap.size) (hs : w.heap.size < w1.heap.size) :
    Two (w1.alloc (.cells (sxc zeros (.slice none 0 0)) 30)) B w.heap.size w1.heap.size (zeros, []) := by
  refine ⟨⟨.slice none 0 0, .slice none 0 0, hc.below ((Below.refl _ _).alloc (Nat.le_refl _) _), ⟨Blk.new _ _ _, Sd.nil _ _, (fun i hi => by cases hi), (fun e => by cases e), fit_zero⟩, ?_, ?_⟩, by omega⟩
  · rintro j (rfl | hj) (hk | hk)
    · omega
    · cases hk
    · cases hj
    · cases hj
  · rintro j (rfl | hj)
    · exact hB
    · cases hj

theorem lastF_le {V : List Nat} {X : List Dt} (h : Fit V X) (r : Int) : lastF V X r ≤ top := by
  unfold lastF
  cases hg : (X.filter fun d => decide (d.1 = r)).getLast? with
  | none => exact at_le h.le r
  | some d => exact (h.may d (List.mem_filter.1 (List.mem_of_getLast? hg)).1).2.2.2

set_option maxHeartbeats 8000000 in
theorem plays_short (vl va : Value) (L M : List Dt) (w : World) (hL : Sd w vl L) (hM : Sd w va M) (hl : L.length ≤ 200) (hm : M.length ≤ 200) :
    Calls Try.prog 3 #[vl, va] w fun e w' => e = .returned (.bool true) ∧ Below w.heap.size w w' := by
  have hfo : Try.prog.follows .mixedOrders = true := by kernel_rfl
  have HL := Lib.hid hL
  have HA := Lib.hid hM
  obtain ⟨A, c, rfl, _, _⟩ := hL
  obtain ⟨A2, c2, rfl, _, _⟩ := hM
  have b1 : ¬ (200 : Int) < (L.length : Int) := by omega
  have b2 : ¬ (200 : Int) < (M.length : Int) := by omega
  go_enter Try.func3, Try.ntmps3
  go_wp2_with fail
  refine (new_any w).mono ?_
  rintro e w1 ⟨rfl, hc1, hb1⟩
  have hlt1 := hc1.blk.lt
  have hT0 := two_new w.heap.size hc1 (Nat.le_refl _) hlt1
  have hb2 : Below w.heap.size w (w1.alloc (.cells (sxc zeros (.slice none 0 0)) 30)) := hb1.alloc hb1.size _
  have hz2 : w.heap.size ≤ (w1.alloc (.cells (sxc zeros (.slice none 0 0)) 30)).heap.size := hb2.size
  clear b1 b2 hc1 hb1
  go_wp2
  go_loopw [7] (fun z wr => ∃ (i : Nat) (S : List Nat × List Dt), z = .int .i64 (i : Int) ∧ i ≤ L.length ∧ S.2.length ≤ i ∧ Two wr w.heap.size w.heap.size w1.heap.size S ∧ Below w.heap.size w wr ∧ w.heap.size ≤ wr.heap.size) (fun z _ => L.length - (intOf z).toNat)
  case atStart => exact ⟨0, (zeros, []), rfl, Nat.zero_le _, Nat.le_refl _, hT0, hb2, hz2⟩
  case round =>
    clear hT0 hb2 hz2
    obtain ⟨i, S, rfl, hi, hSl, hT, hb, hz⟩ := hrel
    by_cases hlt : i < L.length
    · obtain ⟨d, hd⟩ : ∃ d, L[i] = d := ⟨_, rfl⟩
      obtain ⟨b, o, rfl, k0, k1⟩ := (HL.out.below hb).at_ i hlt d hd
      have hil : (i : Int) < (L.length : Int) := by omega
      have HD := Lib.hid hd
      have HLT := Lib.hid hlt
      clear hd
      go_wp2_with fail
      refine (two_add hT (by omega) hb hz).mono ?_
      rintro e w2 ⟨rfl, hb2, hz2, h2⟩
      clear k0 k1 hb hz hT
      obtain ⟨bb2, oo2, ee2, k0, k1⟩ := (HL.out.below hb2).at_ i HLT.out d HD.out
      injection ee2 with ee2
      injection ee2 with f1 f2
      subst f1; subst f2
      have hAs := addS_short S d
      by_cases hM : May d
      · rw [if_pos hM]
        obtain ⟨q, hq⟩ : ∃ q : Bool, q = decide (¬ In S.1 S.2 d) := ⟨_, rfl⟩
        rw [show decide (May d ∧ ¬ In S.1 S.2 d) = q by rw [hq]; simp [hM]]
        have HQ := Lib.hid hq
        have HM := Lib.hid hM
        clear hq hM
        go_wp2_with fail
        refine (refMay_any d w2).mono ?_
        rintro e w3 ⟨rfl, hg3⟩
        rw [decide_eq_true HM.out]
        have hb3 := hb2.trans (hg3.below.mono hz2)
        have hz3 := Nat.le_trans hz2 hg3.below.size
        obtain ⟨v2, u2, C2, S2, D2, L2⟩ := h2
        have h3 : ∃ v u, Cx w3 w.heap.size v (addS S d).1 (addS S d).2 ∧ Sx w3 w1.heap.size u S.1 S.2 ∧ (∀ j, Foot w.heap.size v j → ¬ Foot w1.heap.size u j) ∧ ∀ j, Foot w.heap.size v j → w.heap.size ≤ j := ⟨v2, u2, C2.below hg3.below, S2.below hg3.below, D2, L2⟩
        clear k0 k1 hb2 C2 S2 hg3
        obtain ⟨bb3, oo3, ee3, k0, k1⟩ := (HL.out.below hb3).at_ i HLT.out d HD.out
        injection ee3 with ee3
        injection ee3 with f1 f2
        subst f1; subst f2

        go_wp2_with fail
        refine (may_any d w3).mono ?_
        rintro e w4 ⟨rfl, hg4⟩
        rw [decide_eq_true HM.out]
        have hb4 := hb3.trans (hg4.below.mono hz3)
        have hz4 := Nat.le_trans hz3 hg4.below.size
        obtain ⟨v3, u3, C3, S3, D3, L3⟩ := h3
        have h4 : ∃ v u, Cx w4 w.heap.size v (addS S d).1 (addS S d).2 ∧ Sx w4 w1.heap.size u S.1 S.2 ∧ (∀ j, Foot w.heap.size v j → ¬ Foot w1.heap.size u j) ∧ ∀ j, Foot w.heap.size v j → w.heap.size ≤ j := ⟨v3, u3, C3.below hg4.below, S3.below hg4.below, D3, L3⟩
        clear k0 k1 hb3 C3 S3 hg4
        obtain ⟨bb4, oo4, ee4, k0, k1⟩ := (HL.out.below hb4).at_ i HLT.out d HD.out
        injection ee4 with ee4
        injection ee4 with f1 f2
        subst f1; subst f2

        go_wp2_with fail
        refine (two_ref HM.out h4 (by omega) (by omega) hb4 hz4).mono ?_
        rintro e w5 ⟨rfl, hb5, hz5, hT5⟩
        rw [← HQ.out]
        clear k0 k1 h4 hb4 hz4
        go_wp2_with fail
        refine (two_same hT5 (by omega)).mono ?_
        rintro e w6 ⟨rfl, hb6⟩
        have hT6 := hT5.below hb6
        have hb7 := hb5.trans (hb6.mono hz5)
        have hz7 := Nat.le_trans hz5 hb6.size
        go_wp2
        exact ⟨⟨i + 1, addS S d, by go_num, by omega, by omega, hT6, hb7, hz7⟩, by simp [intOf]; omega⟩
      · rw [if_neg hM, show decide (May d ∧ ¬ In S.1 S.2 d) = false by simp [hM]]
        have hS : addS S d = S := by unfold addS; rw [if_neg hM]
        have HM := Lib.hid hM
        clear hM
        rw [hS] at h2
        go_wp2_with fail
        refine (refMay_any d w2).mono ?_
        rintro e w3 ⟨rfl, hg3⟩
        rw [decide_eq_false HM.out]
        have hb3 := hb2.trans (hg3.below.mono hz2)
        have hz3 := Nat.le_trans hz2 hg3.below.size
        clear k0 k1 hb2
        obtain ⟨bb3, oo3, ee3, k0, k1⟩ := (HL.out.below hb3).at_ i HLT.out d HD.out
        injection ee3 with ee3
        injection ee3 with f1 f2
        subst f1; subst f2

        go_wp2_with fail
        refine (may_any d w3).mono ?_
        rintro e w4 ⟨rfl, hg4⟩
        rw [decide_eq_false HM.out]
        have hb4 := hb3.trans (hg4.below.mono hz3)
        have hz4 := Nat.le_trans hz3 hg4.below.size
        obtain ⟨v2, u2, C2, S2, D2, L2⟩ := h2
        have hT4 : Two w4 w.heap.size w.heap.size w1.heap.size S := ⟨⟨v2, u2, (C2.below hg3.below).below hg4.below, (S2.below hg3.below).below hg4.below, D2, L2⟩, by omega⟩
        clear k0 k1
        go_wp2
        exact ⟨⟨i + 1, S, by go_num, by omega, by omega, hT4, hb4, hz4⟩, by simp [intOf]; omega⟩
    · have hSl2 : S.2.length ≤ 200 := by omega
      obtain ⟨h, hh⟩ : ∃ h, h = w1.heap.size := ⟨_, rfl⟩
      rw [← hh] at hT
      have HH := Lib.hid hh
      have hbi : ¬ (i : Int) < (L.length : Int) := by omega
      clear hh hSl hlt hi HL
      go_wp2
      rw [← HH.out]
      have hT1 := hT
      have hb1 := hb
      have hz1 := hz
      clear hT hb hz HH hlt1
      rename World => wold
      go_loopw [10] (fun z wq => ∃ i : Nat, z = .int .i64 (i : Int) ∧ i ≤ M.length ∧ Two wq w.heap.size w.heap.size h S ∧ Below w.heap.size w wq ∧ w.heap.size ≤ wq.heap.size) (fun z _ => M.length - (intOf z).toNat)
      case atStart => exact ⟨0, rfl, Nat.zero_le _, hT1, hb1, hz1⟩
      case round =>
        clear hT1 hb1 hz1
        obtain ⟨i, rfl, hi, hT, hb, hz⟩ := hrel
        by_cases hlt : i < M.length
        · obtain ⟨d, hd⟩ : ∃ d, M[i] = d := ⟨_, rfl⟩
          obtain ⟨b, o, rfl, k0, k1⟩ := (HA.out.below hb).at_ i hlt d hd
          have hil : (i : Int) < (M.length : Int) := by omega
          have HLT := Lib.hid hlt
          obtain ⟨v, u, Cc, Cs, _, _⟩ := hT.is
          have q0 : ∀ n os, (Go.Sort.grow (wr.drewN n) os).cell? ⟨b, o + i * 2, none⟩ = some (.int .i64 d.1) := cell_grown (World.block_lt_of_cell? wr _ k0) k0
          have q1 : ∀ n os, (Go.Sort.grow (wr.drewN n) os).cell? ⟨b, o + i * 2 + 1, none⟩ = some (.int .u64 (d.2 : Int)) := cell_grown (World.block_lt_of_cell? wr _ k1) k1
          have hgw : ∀ n os, Grw wr (Go.Sort.grow (wr.drewN n) os) := fun n os => ⟨n, os, rfl⟩
          have c1 := fun n os => has_any w.heap.size v S.1 S.2 d (Go.Sort.grow (wr.drewN n) os) (Cc.below (hgw n os).below) (by omega)
          have c2 := fun n os => refHas_any h u S.1 S.2 d (Go.Sort.grow (wr.drewN n) os) (Cs.below (hgw n os).below) (by omega)
          generalize decide (In S.1 S.2 d) = p at c1 c2
          clear hgw Cc Cs k0 k1 hd
          by_cases hpos : 0 < i
          · obtain ⟨j, rfl⟩ : ∃ j, i = j + 1 := ⟨i - 1, by omega⟩
            obtain ⟨x, hx⟩ : ∃ x, M[j]'(by have := HLT.out; omega) = x := ⟨_, rfl⟩
            obtain ⟨bb, oo, ee, k2, k3⟩ := (HA.out.below hb).at_ j (by have := HLT.out; omega) x hx
            injection ee with ee
            injection ee with f1 f2
            subst f1; subst f2
            have q2 : ∀ n os, (Go.Sort.grow (wr.drewN n) os).cell? ⟨b, o + j * 2, none⟩ = some (.int .i64 x.1) := cell_grown (World.block_lt_of_cell? wr _ k2) k2
            have q3 : ∀ n os, (Go.Sort.grow (wr.drewN n) os).cell? ⟨b, o + j * 2 + 1, none⟩ = some (.int .u64 (x.2 : Int)) := cell_grown (World.block_lt_of_cell? wr _ k3) k3
            have c3 := fun n os => less_any x d (Go.Sort.grow (wr.drewN n) os)
            have c4 := fun n os => refLess_any x d (Go.Sort.grow (wr.drewN n) os)
            generalize decide (Lt x d) = p2 at c3 c4
            clear k2 k3 hx
            have hw3 : (0 : Int) ≤ (j : Int) := by omega
            have hw4 : (j : Int) < (M.length : Int) := by omega
            generalize hi1 : j + 1 = i at *
            have hw1 : IntKind.i64.wrap ((i : Int) - 1) = (j : Int) := by rw [IntKind.wrap_i64] <;> omega
            have hw5 : (0 : Int) < (i : Int) := by omega
            have hw6 : 0 < i := by omega
            have hw7 : decide ((0 : Int) < (i : Int)) = true := decide_eq_true hw5
            have hw8 : decide (0 < i) = true := decide_eq_true hw6
            have HI1 := Lib.hid hi1
            clear hi1 hpos
            cases p <;> cases p2
            all_goals
              go_wp2_with fail
              go_quiet_grown (first | (go_at_call 16; refine Calls.grown_of (c1 _ _)) | (go_at_call 17; refine Calls.grown_of (c2 _ _)) | (go_at_call 18; refine Calls.grown_of (c3 _ _)) | (go_at_call 19; refine Calls.grown_of (c4 _ _)))
              have hg2 : Grw wr (Go.Sort.grow (wr.drewN nq) osq) := ⟨nq, osq, rfl⟩
              have hT2 := hT.below hg2.below
              have hb2 := hb.trans (hg2.below.mono hz)
              have hz2 := Nat.le_trans hz hg2.below.size
              clear c1 c2 c3 c4 q0 q1 q2 q3
              go_wp2
              exact ⟨⟨i + 1, by go_num, HLT.out, hT2, hb2, hz2⟩, by have := HLT.out; simp [intOf]; omega⟩
          · have hw7 : decide ((0 : Int) < (i : Int)) = false := decide_eq_false (by omega)
            have hw8 : decide (0 < i) = false := decide_eq_false hpos
            clear hpos
            cases p
            all_goals
              go_wp2_with fail
              refine wp_region_quiet_grown (by assumption) (by kernel_rfl) ?_
              repeat (first | go_big_quiet_skip | quiet_step ((first | (go_at_call 16; refine Calls.grown_of (c1 _ _)) | (go_at_call 17; refine Calls.grown_of (c2 _ _)))))
              refine wpQuiet_nil ?_
              intro _ hw'
              obtain ⟨⟨nq, osq⟩, hw''⟩ := hw'
              subst hw''
              have hg2 : Grw wr (Go.Sort.grow (wr.drewN nq) osq) := ⟨nq, osq, rfl⟩
              have hT2 := hT.below hg2.below
              have hb2 := hb.trans (hg2.below.mono hz)
              have hz2 := Nat.le_trans hz hg2.below.size
              clear c1 c2 q0 q1
              go_wp2
              exact ⟨⟨i + 1, by go_num, HLT.out, hT2, hb2, hz2⟩, by have := HLT.out; simp [intOf]; omega⟩
        · have hbi2 : ¬ (i : Int) < (M.length : Int) := by omega
          clear hlt hi HA
          go_wp2
          have hT1 := hT
          have hb1 := hb
          have hz1 := hz
          clear hT hb hz hbi hbi2
          rename World => wold2
          go_loopw [11] (fun z wq => ∃ r : Int, z = .int .i64 r ∧ -1 ≤ r ∧ r ≤ 19 ∧ Two wq w.heap.size w.heap.size h S ∧ Below w.heap.size w wq ∧ w.heap.size ≤ wq.heap.size) (fun z _ => (19 - intOf z).toNat)
          case atStart => exact ⟨-1, rfl, by omega, by omega, hT1, hb1, hz1⟩
          case round =>
            clear hT1 hb1 hz1
            obtain ⟨r, rfl, hlo, hhi, hT, hb, hz⟩ := hrel
            by_cases h19 : r < 19
            · by_cases hin : 1 ≤ r ∧ r ≤ 16
              · obtain ⟨k, rfl⟩ : ∃ k : Nat, r = (k : Int) + 1 := ⟨(r - 1).toNat, by omega⟩
                have hk : k < 16 := by omega
                obtain ⟨v, u, Cc, Cs, D2, L2⟩ := hT.is
                have hnl := lastF_le Cc.fit ((k : Int) + 1)
                have hfi := next_any w.heap.size v S.1 S.2 k wr Cc hk (by omega)
                have hse := fun W (hg : Grw wr W) => refNext_any h u S.1 S.2 k W (Cs.below hg.below) hk (by omega)
                generalize lastF S.1 S.2 ((k : Int) + 1) = n at hnl hfi hse
                have g1 : decide ((k : Int) + 1 < 1) = false := decide_eq_false (by omega)
                have g2 : decide ((16 : Int) < (k : Int) + 1) = false := decide_eq_false (by omega)
                have hw1 : IntKind.u64.wrap ((n : Int) + 1) = (n : Int) + 1 := by rw [IntKind.wrap_u64]; unfold top at hnl; omega
                clear Cc Cs D2 L2 hin hlo hhi
                by_cases ht : n = top
                · rw [nextN, nextE, if_pos ht, if_pos ht] at hfi
                  have hb2 : ((n : Int) == 4611686018427387904) = true := by rw [beq_iff_eq, ht]; rfl
                  clear ht hw1 hnl
                  go_wp2_with fail
                  refine hfi.mono ?_
                  rintro e w2 ⟨rfl, hg2⟩
                  go_wp2_with fail
                  refine (hse w2 hg2).mono ?_
                  rintro e w3 ⟨rfl, rfl⟩
                  have hT2 := hT.below hg2.below
                  have hb3 := hb.trans (hg2.below.mono hz)
                  have hz2 := Nat.le_trans hz hg2.below.size
                  clear hfi hse
                  go_wp2
                  exact ⟨⟨(k : Int) + 1 + 1, by go_num, by omega, by omega, hT2, hb3, hz2⟩, by simp [intOf]; omega⟩
                · rw [nextN, nextE, if_neg ht, if_neg ht] at hfi
                  have hb2 : ((n : Int) == 4611686018427387904) = false := by rw [beq_eq_false_iff_ne]; intro e; exact ht (by unfold top; omega)
                  clear ht hnl
                  go_wp2_with fail
                  refine hfi.mono ?_
                  rintro e w2 ⟨rfl, hg2⟩
                  go_wp2_with fail
                  refine (hse w2 hg2).mono ?_
                  rintro e w3 ⟨rfl, rfl⟩
                  have hT2 := hT.below hg2.below
                  have hb3 := hb.trans (hg2.below.mono hz)
                  have hz2 := Nat.le_trans hz hg2.below.size
                  clear hfi hse
                  go_wp2
                  exact ⟨⟨(k : Int) + 1 + 1, by go_num, by omega, by omega, hT2, hb3, hz2⟩, by simp [intOf]; omega⟩
              · obtain ⟨v, u, Cc, Cs, D2, L2⟩ := hT.is
                have hfi := next_bad w.heap.size v S.1 S.2 r wr Cc hin
                clear Cc Cs D2 L2
                rcases Int.lt_or_le r 1 with h1 | h1
                · have g1 : decide (r < 1) = true := decide_eq_true h1
                  clear hin
                  go_wp2_with fail
                  refine hfi.mono ?_
                  rintro e w2 ⟨rfl, rfl⟩
                  clear hfi
                  go_wp2
                  exact ⟨⟨r + 1, by go_num, by omega, by omega, hT, hb, hz⟩, by simp [intOf]; omega⟩
                · have h2 : 16 < r := by omega
                  have g1 : decide (r < 1) = false := decide_eq_false (by omega)
                  have g2 : decide ((16 : Int) < r) = true := decide_eq_true h2
                  clear hin
                  go_wp2_with fail
                  refine hfi.mono ?_
                  rintro e w2 ⟨rfl, rfl⟩
                  clear hfi
                  go_wp2
                  exact ⟨⟨r + 1, by go_num, by omega, by omega, hT, hb, hz⟩, by simp [intOf]; omega⟩
            · go_wp2_with fail
              refine (known_any _).mono ?_
              rintro e w2 ⟨rfl, hb2⟩
              go_wp2
              go_ret
              exact ⟨rfl, hb.trans (hb2.mono hz)⟩
end Go.Proofs.Ytoglhpcboonpeaa

/-
  NetOrder: all that was sent is taken, line by line in order.
-/
import Derived.Test.YtellbmghahgjfaaNetX
import Derived.Deep.Cut
namespace Go.Proofs.Ytellbmghahgjfaa
open Go.RowKit Go.Maps
open NetM
set_option linter.unusedVariables false
set_option linter.unusedSimpArgs false
set_option maxRecDepth 20000
theorem held_wanted' {P : Program} {Q : Exit → Act → World → Prop} {o : Oper} {ys : Nat → Option Bool} {a : Act} {w : World} {K' : Act → World → Prop} {E : Prop} (ho : o = o) (hw : Region.wanted o ys = true) (h : Oper.wp P o a w K' Q) : if Region.wanted o ys = true then Oper.wp P o a w K' Q else E := by
  rw [if_pos hw]; exact h
set_option maxHeartbeats 8000000 in
theorem netOrder_any (v : Value) (L : List NA.St) (w : World) (hs : NA.Sts w v L) :
    Calls Try.prog 7 #[v] w fun e w' => e = .returned (.bool true) ∧ Below w.heap.size w w' := by
  have hfo : Try.prog.follows .mixedOrders = true := by kernel_rfl
  have hmu := NA.much_any v L w hs
  obtain ⟨ifl, hif1, hif2, hif3, hif4⟩ := flI
  have HS := Lib.hid hs
  obtain ⟨A, c, rfl, hc, ha⟩ := hs
  have Ha := Lib.hid ha
  clear ha
  go_enter Try.func7, Try.ntmps7
  go_upto_region 1 with fail
  go_upto_region 2 with (go_at_call 12; refine hmu.mono ?_; rintro e w1 ⟨r, rfl, rfl, hfew⟩; cases r)
  rotate_left
  · go_wp2_with (go_at_call 11; refine (nknown_any _).mono ?_; rintro e w2 ⟨rfl, hb⟩)
    go_ret
    exact ⟨rfl, hb⟩
  have hF := hfew trivial
  have hF60 := hF.len
  clear hfew hmu
  refine (new_any 4 (by decide) (by decide) _).mono ?_
  rintro e w1 ⟨p, b, rfl, hN, hb1, hp, hbb⟩
  have hM0 := mm_new hN hb1 hp hbb
  clear hN hb1 hp hbb
  go_upto_region 6 with (go_at_call 10; refine (num_any _ _).mono ?_; rintro e w2 ⟨rfl, hwd⟩; obtain rfl := hwd.symm)
  go_wp2
  go_loopw [5, 6] (fun x z wr => ∃ (k : Nat) (lost : Int) (V : List (Fl Pl)) (s : Sv) (S : List (Fl Pl)), k ≤ L.length ∧ z = .int .i64 (k : Int) ∧ x = sv s ∧ lost ≤ (k : Int) ∧ Mm w wr p b lost V s S ∧ Alike V S ∧ S.length ≤ k) (fun _ z _ => L.length - (intOf z).toNat)
  case atStart => exact ⟨0, 0, [], nilS, [], Nat.zero_le _, rfl, rfl, by omega, hM0, .nil, Nat.le_refl _⟩
  case round =>
    obtain ⟨k, lost, V, s, S, hk, rfl, rfl, hlo, hM, hA, hSl⟩ := hrel
    clear hM0
    by_cases hlt : k < L.length
    · obtain ⟨bb, o, rfl, hx⟩ := Ha.out (by omega)
      obtain ⟨hcs, h0⟩ := hx k hlt
      clear hx
      obtain ⟨A4, n4, c4, e4⟩ := h0.b.shape
      have HSL := Lib.hid (show Sl w (.slice A4 n4 c4) L[k].b from e4 ▸ h0.b)
      obtain ⟨q, hq⟩ : ∃ q : Pr, q = (L[k].x, L[k].y) := ⟨_, rfl⟩
      have HC0 := Lib.hid (show ∀ X, Below w.heap.size w X → X.cell? ⟨bb, o + k * 4, none⟩ = some (.int .i64 L[k].kind) ∧ X.cell? ⟨bb, o + k * 4 + 1, none⟩ = some (.int .i64 q.1) ∧ X.cell? ⟨bb, o + k * 4 + 2, none⟩ = some (.int .i64 q.2) ∧ X.cell? ⟨bb, o + k * 4 + 3, none⟩ = some (.slice A4 n4 c4) from fun X hX => by
        obtain ⟨d0, d1, d2, d3⟩ := hcs.below hX
        rw [hq, ← e4]
        exact ⟨d0, d1, d2, d3⟩)
      clear hcs h0 e4 hq
      generalize L[k].b = l4 at HSL
      generalize L[k].kind = kd at HC0
      have HSL0 := Lib.hid (show Sl w (sv (A4, n4, c4)) l4 from HSL.out)
      have hkI : (k : Int) < (L.length : Int) := by omega
      have hk0 : (0 : Int) ≤ (k : Int) := by omega
      have hkM : (k : Int) ≤ 60 := by omega
      have hlo2 : lost ≤ 1000000 := by omega
      have HSO := Lib.hid (mm_sorted hM)
      have HA := Lib.hid hA
      by_cases h1 : kd = 1
      · subst h1
        have HC := HC0
        clear HC0
        go_upto_region 10 with fail
        refine wp_region_held_drew (S := fun X => Below w.heap.size w X) hfo (hM.below.trans ((show Below wr.heap.size wr wr.drew from (Below.refl _ _).drew).mono hM.below.size)) (fun hS0 => ?_)
        have hW0 : Below wr.heap.size wr wr.drew := (Below.refl _ _).drew
        generalize wr.drew = Z0 at hS0 hW0 ⊢
        refine' wpAnyH_take (i := 0) (oi := ⟨some 33, _, _, _, _, _⟩) (v := _) rfl (by kernel_rfl) (by kernel_rfl) (by kernel_rfl) (fun _ _ _ h => h) (Or.inl ⟨by rfl, ?y0a⟩) hS0 ?r0a
        case y0a =>
          intro w' hSw
          obtain ⟨c0, c1, c2, c3⟩ := HC.out _ hSw
          go_simp
          try rfl
        try simp only [Act.put, List.setIfInBounds_toArray, List.set_cons_zero, List.set_cons_succ]
        refine' wpAnyH_take (i := 1) (oi := ⟨some 34, _, _, _, _, _⟩) (v := _) rfl (by kernel_rfl) (by kernel_rfl) (by kernel_rfl) (fun _ _ _ h => h) (Or.inl ⟨by rfl, ?y1a⟩) hS0 ?r1a
        case y1a =>
          intro w' hSw
          obtain ⟨c0, c1, c2, c3⟩ := HC.out _ hSw
          go_simp
          try rfl
        try simp only [Act.put, List.setIfInBounds_toArray, List.set_cons_zero, List.set_cons_succ]
        refine' wpAnyH_take (i := 2) (oi := ⟨some 35, _, _, _, _, _⟩) (v := _) rfl (by kernel_rfl) (by kernel_rfl) (by kernel_rfl) (fun _ _ _ h => h) (Or.inl ⟨by rfl, ?y2a⟩) hS0 ?r2a
        case y2a =>
          intro w' hSw
          obtain ⟨c0, c1, c2, c3⟩ := HC.out _ hSw
          go_simp
          try rfl
        try simp only [Act.put, List.setIfInBounds_toArray, List.set_cons_zero, List.set_cons_succ]
        refine' wpAnyH_take (i := 3) (oi := ⟨some 36, _, _, _, _, _⟩) (v := _) rfl (by kernel_rfl) (by kernel_rfl) (by kernel_rfl) (fun _ _ _ h => h) (Or.inl ⟨by rfl, ?y3a⟩) hS0 ?r3a
        case y3a =>
          intro w' hSw
          obtain ⟨c0, c1, c2, c3⟩ := HC.out _ hSw
          go_simp
          try rfl
        try simp only [Act.put, List.setIfInBounds_toArray, List.set_cons_zero, List.set_cons_succ]
        refine' wpAnyH_take (i := 4) (oi := ⟨some 37, _, _, _, _, _⟩) (v := _) rfl (by kernel_rfl) (by kernel_rfl) (by kernel_rfl) (fun _ _ _ h => h) (Or.inl ⟨by rfl, ?y4a⟩) hS0 ?r4a
        case y4a =>
          intro w' hSw
          obtain ⟨c0, c1, c2, c3⟩ := HC.out _ hSw
          go_simp
          try rfl
        try simp only [Act.put, List.setIfInBounds_toArray, List.set_cons_zero, List.set_cons_succ]
        refine' wpAnyH_take (i := 5) (oi := ⟨some 38, _, _, _, _, _⟩) (v := _) rfl (by kernel_rfl) (by kernel_rfl) (by kernel_rfl) (fun _ _ _ h => h) (Or.inl ⟨by rfl, ?y5a⟩) hS0 ?r5a
        case y5a =>
          intro w' hSw
          obtain ⟨c0, c1, c2, c3⟩ := HC.out _ hSw
          go_simp
          try rfl
        try simp only [Act.put, List.setIfInBounds_toArray, List.set_cons_zero, List.set_cons_succ]
        refine' wpAnyH_take (i := 6) (oi := ⟨some 39, _, _, _, _, _⟩) (v := _) rfl (by kernel_rfl) (by kernel_rfl) (by kernel_rfl) (fun _ _ _ h => h) (Or.inl ⟨by rfl, ?y6a⟩) hS0 ?r6a
        case y6a =>
          intro w' hSw
          obtain ⟨c0, c1, c2, c3⟩ := HC.out _ hSw
          go_simp
          try rfl
        try simp only [Act.put, List.setIfInBounds_toArray, List.set_cons_zero, List.set_cons_succ]
        refine' wpAnyH_take (i := 7) (oi := ⟨some 40, _, _, _, _, _⟩) (v := _) rfl (by kernel_rfl) (by kernel_rfl) (by kernel_rfl) (fun _ _ _ h => h) (Or.inl ⟨by rfl, ?y7a⟩) hS0 ?r7a
        case y7a =>
          intro w' hSw
          obtain ⟨c0, c1, c2, c3⟩ := HC.out _ hSw
          go_simp
          try rfl
        try simp only [Act.put, List.setIfInBounds_toArray, List.set_cons_zero, List.set_cons_succ]
        refine' wpAnyH_take (i := 8) (oi := ⟨some 41, _, _, _, _, _⟩) (v := _) rfl (by kernel_rfl) (by kernel_rfl) (by kernel_rfl) (fun _ _ _ h => h) (Or.inl ⟨by rfl, ?y8a⟩) hS0 ?r8a
        case y8a =>
          intro w' hSw
          obtain ⟨c0, c1, c2, c3⟩ := HC.out _ hSw
          go_simp
          try rfl
        try simp only [Act.put, List.setIfInBounds_toArray, List.set_cons_zero, List.set_cons_succ]
        refine' wpAnyH_take (i := 9) (oi := ⟨some 42, _, _, _, _, _⟩) (v := _) rfl (by kernel_rfl) (by kernel_rfl) (by kernel_rfl) (fun _ _ _ h => h) (Or.inl ⟨by rfl, ?y9a⟩) hS0 ?r9a
        case y9a =>
          intro w' hSw
          obtain ⟨c0, c1, c2, c3⟩ := HC.out _ hSw
          go_simp
          try rfl
        try simp only [Act.put, List.setIfInBounds_toArray, List.set_cons_zero, List.set_cons_succ]
        refine' wpAnyH_take (i := 10) (oi := ⟨some 43, _, _, _, _, _⟩) (v := _) rfl (by kernel_rfl) (by kernel_rfl) (by kernel_rfl) (fun _ _ _ h => h) (Or.inl ⟨by rfl, ?y10a⟩) hS0 ?r10a
        case y10a =>
          intro w' hSw
          obtain ⟨c0, c1, c2, c3⟩ := HC.out _ hSw
          go_simp
          try rfl
        try simp only [Act.put, List.setIfInBounds_toArray, List.set_cons_zero, List.set_cons_succ]
        refine' wpAnyH_take (i := 11) (oi := ⟨some 44, _, _, _, _, _⟩) (v := _) rfl (by kernel_rfl) (by kernel_rfl) (by kernel_rfl) (fun _ _ _ h => h) (Or.inl ⟨by rfl, ?y11a⟩) hS0 ?r11a
        case y11a =>
          intro w' hSw
          obtain ⟨c0, c1, c2, c3⟩ := HC.out _ hSw
          go_simp
          try rfl
        try simp only [Act.put, List.setIfInBounds_toArray, List.set_cons_zero, List.set_cons_succ]
        refine' wpAnyH_take (i := 12) (oi := ⟨some 45, _, _, _, _, _⟩) (v := _) rfl (by kernel_rfl) (by kernel_rfl) (by kernel_rfl) (fun _ _ _ h => h) (Or.inl ⟨by rfl, ?y12a⟩) hS0 ?r12a
        case y12a =>
          intro w' hSw
          obtain ⟨c0, c1, c2, c3⟩ := HC.out _ hSw
          go_simp
          try rfl
        try simp only [Act.put, List.setIfInBounds_toArray, List.set_cons_zero, List.set_cons_succ]
        refine' wpAnyH_take (i := 13) (oi := ⟨some 46, _, _, _, _, _⟩) (v := _) rfl (by kernel_rfl) (by kernel_rfl) (by kernel_rfl) (fun _ _ _ h => h) (Or.inl ⟨by rfl, ?y13a⟩) hS0 ?r13a
        case y13a =>
          intro w' hSw
          obtain ⟨c0, c1, c2, c3⟩ := HC.out _ hSw
          go_simp
          try rfl
        try simp only [Act.put, List.setIfInBounds_toArray, List.set_cons_zero, List.set_cons_succ]
        refine' wpAnyH_take (i := 14) (oi := ⟨some 47, _, _, _, _, _⟩) (v := _) rfl (by kernel_rfl) (by kernel_rfl) (by kernel_rfl) (fun _ _ _ h => h) (Or.inl ⟨by rfl, ?y14a⟩) hS0 ?r14a
        case y14a =>
          intro w' hSw
          obtain ⟨c0, c1, c2, c3⟩ := HC.out _ hSw
          go_simp
          try rfl
        try simp only [Act.put, List.setIfInBounds_toArray, List.set_cons_zero, List.set_cons_succ]
        refine' wpAnyH_take (i := 15) (oi := ⟨some 48, _, _, _, _, _⟩) (v := _) rfl (by kernel_rfl) (by kernel_rfl) (by kernel_rfl) (fun _ _ _ h => h) (Or.inl ⟨by rfl, ?y15a⟩) hS0 ?r15a
        case y15a =>
          intro w' hSw
          obtain ⟨c0, c1, c2, c3⟩ := HC.out _ hSw
          go_simp
          try rfl
        try simp only [Act.put, List.setIfInBounds_toArray, List.set_cons_zero, List.set_cons_succ]
        refine' wpAnyH_take (i := 16) (oi := ⟨some 49, _, _, _, _, _⟩) (v := _) rfl (by kernel_rfl) (by kernel_rfl) (by kernel_rfl) (fun _ _ _ h => h) (Or.inl ⟨by rfl, ?y16a⟩) hS0 ?r16a
        case y16a =>
          intro w' hSw
          obtain ⟨c0, c1, c2, c3⟩ := HC.out _ hSw
          go_simp
          try rfl
        try simp only [Act.put, List.setIfInBounds_toArray, List.set_cons_zero, List.set_cons_succ]
        refine' wpAnyH_take (i := 17) (oi := ⟨some 50, _, _, _, _, _⟩) (v := _) rfl (by kernel_rfl) (by kernel_rfl) (by kernel_rfl) (fun _ _ _ h => h) (Or.inl ⟨by rfl, ?y17a⟩) hS0 ?r17a
        case y17a =>
          intro w' hSw
          obtain ⟨c0, c1, c2, c3⟩ := HC.out _ hSw
          go_simp
          try rfl
        try simp only [Act.put, List.setIfInBounds_toArray, List.set_cons_zero, List.set_cons_succ]
        refine' wpAnyH_take (i := 18) (oi := ⟨some 51, _, _, _, _, _⟩) (v := _) rfl (by kernel_rfl) (by kernel_rfl) (by kernel_rfl) (fun _ _ _ h => h) (Or.inl ⟨by rfl, ?y18a⟩) hS0 ?r18a
        case y18a =>
          intro w' hSw
          obtain ⟨c0, c1, c2, c3⟩ := HC.out _ hSw
          go_simp
          try rfl
        try simp only [Act.put, List.setIfInBounds_toArray, List.set_cons_zero, List.set_cons_succ]
        refine' wpAnyH_take (i := 19) (oi := ⟨some 52, _, _, _, _, _⟩) (v := _) rfl (by kernel_rfl) (by kernel_rfl) (by kernel_rfl) (fun _ _ _ h => h) (Or.inl ⟨by rfl, ?y19a⟩) hS0 ?r19a
        case y19a =>
          intro w' hSw
          obtain ⟨c0, c1, c2, c3⟩ := HC.out _ hSw
          go_simp
          try rfl
        try simp only [Act.put, List.setIfInBounds_toArray, List.set_cons_zero, List.set_cons_succ]
        refine' wpAnyH_take (i := 20) (oi := ⟨some 53, _, _, _, _, _⟩) (v := _) rfl (by kernel_rfl) (by kernel_rfl) (by kernel_rfl) (fun _ _ _ h => h) (Or.inl ⟨by rfl, ?y20a⟩) hS0 ?r20a
        case y20a =>
          intro w' hSw
          obtain ⟨c0, c1, c2, c3⟩ := HC.out _ hSw
          go_simp
          try rfl
        try simp only [Act.put, List.setIfInBounds_toArray, List.set_cons_zero, List.set_cons_succ]
        refine' wpAnyH_take (i := 21) (oi := ⟨some 54, _, _, _, _, _⟩) (v := _) rfl (by kernel_rfl) (by kernel_rfl) (by kernel_rfl) (fun _ _ _ h => h) (Or.inl ⟨by rfl, ?y21a⟩) hS0 ?r21a
        case y21a =>
          intro w' hSw
          obtain ⟨c0, c1, c2, c3⟩ := HC.out _ hSw
          go_simp
          try rfl
        try simp only [Act.put, List.setIfInBounds_toArray, List.set_cons_zero, List.set_cons_succ]
        refine' wpAnyH_take (i := 22) (oi := ⟨some 55, _, _, _, _, _⟩) (v := _) rfl (by kernel_rfl) (by kernel_rfl) (by kernel_rfl) (fun _ _ _ h => h) (Or.inl ⟨by rfl, ?y22a⟩) hS0 ?r22a
        case y22a =>
          intro w' hSw
          obtain ⟨c0, c1, c2, c3⟩ := HC.out _ hSw
          go_simp
          try rfl
        try simp only [Act.put, List.setIfInBounds_toArray, List.set_cons_zero, List.set_cons_succ]
        refine held_one (i := 23) (by kernel_rfl) rfl (fun Kc hK => ?_)
        refine held_wanted' rfl (by rfl) ?_
        go_simp
        refine (mm_send hM q A4 n4 c4 l4 HSL.out hlo2 Z0 hW0).mono ?_
        rintro e Z1 ⟨r, rfl, lost', V', hlo', hM1, hcase⟩
        refine hK.out _ _ hM1.below (fun _ => ?_)
        clear hK Kc
        try simp only [Act.put, List.setIfInBounds_toArray, List.set_cons_zero, List.set_cons_succ]
        clear hS0 hW0
        refine held_one (i := 24) (by kernel_rfl) rfl (fun Kc hK => ?_)
        refine held_wanted' rfl (by rfl) ?_
        go_simp
        refine (num_any r Z1).mono ?_
        rintro e Z2 ⟨rfl, hzz⟩
        obtain rfl := hzz.symm
        refine hK.out _ _ hM1.below (fun _ => ?_)
        clear hK Kc
        try simp only [Act.put, List.setIfInBounds_toArray, List.set_cons_zero, List.set_cons_succ]
        refine' wpAnyH_take (i := 25) (oi := ⟨some 58, _, _, _, _, _⟩) (v := _) rfl (by kernel_rfl) (by kernel_rfl) (by kernel_rfl) (fun _ _ _ h => h) (Or.inl ⟨by rfl, ?y25a⟩) hM1.below ?r25a
        case y25a =>
          intro w' hSw
          obtain ⟨c0, c1, c2, c3⟩ := HC.out _ hSw
          go_simp
          try rfl
        try simp only [Act.put, List.setIfInBounds_toArray, List.set_cons_zero, List.set_cons_succ]
        refine' wpAnyH_take (i := 26) (oi := ⟨some 59, _, _, _, _, _⟩) (v := _) rfl (by kernel_rfl) (by kernel_rfl) (by kernel_rfl) (fun _ _ _ h => h) (Or.inl ⟨by rfl, ?y26a⟩) hM1.below ?r26a
        case y26a =>
          intro w' hSw
          obtain ⟨c0, c1, c2, c3⟩ := HC.out _ hSw
          go_simp
          try rfl
        try simp only [Act.put, List.setIfInBounds_toArray, List.set_cons_zero, List.set_cons_succ]
        refine wpAnyH_done (by kernel_rfl) ?_ _
        rcases hcase with ⟨hr, rfl⟩ | ⟨hr, x4, rfl⟩
        · go_wp2
          go_roundw
          case rel => exact ⟨k + 1, lost', _, s, S, by omega, by go_num, rfl, by omega, hM1, HA.out, by omega⟩
          case measure => simp [intOf]; omega
        · go_upto_region 11 with fail
          refine wp_region_held_drew (S := fun X => Below w.heap.size w X) hfo (hM1.below.trans ((show Below Z1.heap.size Z1 Z1.drew from (Below.refl _ _).drew).mono hM1.below.size)) (fun hS0 => ?_)
          have hM2 := hM1.more (show Below Z1.heap.size Z1 Z1.drew from (Below.refl _ _).drew)
          generalize Z1.drew = Z2 at hS0 hM2 ⊢
          refine' wpAnyH_take (i := 0) (oi := ⟨some 60, _, _, _, _, _⟩) (v := _) rfl (by kernel_rfl) (by kernel_rfl) (by kernel_rfl) (fun _ _ _ h => h) (Or.inl ⟨by rfl, ?y0c⟩) hS0 ?r0c
          case y0c =>
            intro w' hSw
            obtain ⟨c0, c1, c2, c3⟩ := HC.out _ hSw
            go_simp
            try rfl
          try simp only [Act.put, List.setIfInBounds_toArray, List.set_cons_zero, List.set_cons_succ]
          refine' wpAnyH_take (i := 1) (oi := ⟨some 61, _, _, _, _, _⟩) (v := _) rfl (by kernel_rfl) (by kernel_rfl) (by kernel_rfl) (fun _ _ _ h => h) (Or.inl ⟨by rfl, ?y1c⟩) hS0 ?r1c
          case y1c =>
            intro w' hSw
            obtain ⟨c0, c1, c2, c3⟩ := HC.out _ hSw
            go_simp
            try rfl
          try simp only [Act.put, List.setIfInBounds_toArray, List.set_cons_zero, List.set_cons_succ]
          refine' wpAnyH_take (i := 2) (oi := ⟨some 62, _, _, _, _, _⟩) (v := _) rfl (by kernel_rfl) (by kernel_rfl) (by kernel_rfl) (fun _ _ _ h => h) (Or.inl ⟨by rfl, ?y2c⟩) hS0 ?r2c
          case y2c =>
            intro w' hSw
            obtain ⟨c0, c1, c2, c3⟩ := HC.out _ hSw
            go_simp
            try rfl
          try simp only [Act.put, List.setIfInBounds_toArray, List.set_cons_zero, List.set_cons_succ]
          refine' wpAnyH_take (i := 3) (oi := ⟨some 63, _, _, _, _, _⟩) (v := _) rfl (by kernel_rfl) (by kernel_rfl) (by kernel_rfl) (fun _ _ _ h => h) (Or.inl ⟨by rfl, ?y3c⟩) hS0 ?r3c
          case y3c =>
            intro w' hSw
            obtain ⟨c0, c1, c2, c3⟩ := HC.out _ hSw
            go_simp
            try rfl
          try simp only [Act.put, List.setIfInBounds_toArray, List.set_cons_zero, List.set_cons_succ]
          refine' wpAnyH_take (i := 4) (oi := ⟨some 64, _, _, _, _, _⟩) (v := _) rfl (by kernel_rfl) (by kernel_rfl) (by kernel_rfl) (fun _ _ _ h => h) (Or.inl ⟨by rfl, ?y4c⟩) hS0 ?r4c
          case y4c =>
            intro w' hSw
            obtain ⟨c0, c1, c2, c3⟩ := HC.out _ hSw
            go_simp
            try rfl
          try simp only [Act.put, List.setIfInBounds_toArray, List.set_cons_zero, List.set_cons_succ]
          refine' wpAnyH_take (i := 5) (oi := ⟨some 65, _, _, _, _, _⟩) (v := _) rfl (by kernel_rfl) (by kernel_rfl) (by kernel_rfl) (fun _ _ _ h => h) (Or.inl ⟨by rfl, ?y5c⟩) hS0 ?r5c
          case y5c =>
            intro w' hSw
            obtain ⟨c0, c1, c2, c3⟩ := HC.out _ hSw
            go_simp
            try rfl
          try simp only [Act.put, List.setIfInBounds_toArray, List.set_cons_zero, List.set_cons_succ]
          refine' wpAnyH_take (i := 6) (oi := ⟨some 66, _, _, _, _, _⟩) (v := _) rfl (by kernel_rfl) (by kernel_rfl) (by kernel_rfl) (fun _ _ _ h => h) (Or.inl ⟨by rfl, ?y6c⟩) hS0 ?r6c
          case y6c =>
            intro w' hSw
            obtain ⟨c0, c1, c2, c3⟩ := HC.out _ hSw
            go_simp
            try rfl
          try simp only [Act.put, List.setIfInBounds_toArray, List.set_cons_zero, List.set_cons_succ]
          refine' wpAnyH_take (i := 7) (oi := ⟨some 67, _, _, _, _, _⟩) (v := _) rfl (by kernel_rfl) (by kernel_rfl) (by kernel_rfl) (fun _ _ _ h => h) (Or.inl ⟨by rfl, ?y7c⟩) hS0 ?r7c
          case y7c =>
            intro w' hSw
            obtain ⟨c0, c1, c2, c3⟩ := HC.out _ hSw
            go_simp
            try rfl
          try simp only [Act.put, List.setIfInBounds_toArray, List.set_cons_zero, List.set_cons_succ]
          refine' wpAnyH_take (i := 8) (oi := ⟨some 68, _, _, _, _, _⟩) (v := _) rfl (by kernel_rfl) (by kernel_rfl) (by kernel_rfl) (fun _ _ _ h => h) (Or.inl ⟨by rfl, ?y8c⟩) hS0 ?r8c
          case y8c =>
            intro w' hSw
            obtain ⟨c0, c1, c2, c3⟩ := HC.out _ hSw
            go_simp
            try rfl
          try simp only [Act.put, List.setIfInBounds_toArray, List.set_cons_zero, List.set_cons_succ]
          refine' wpAnyH_take (i := 9) (oi := ⟨some 69, _, _, _, _, _⟩) (v := _) rfl (by kernel_rfl) (by kernel_rfl) (by kernel_rfl) (fun _ _ _ h => h) (Or.inl ⟨by rfl, ?y9c⟩) hS0 ?r9c
          case y9c =>
            intro w' hSw
            obtain ⟨c0, c1, c2, c3⟩ := HC.out _ hSw
            go_simp
            try rfl
          try simp only [Act.put, List.setIfInBounds_toArray, List.set_cons_zero, List.set_cons_succ]
          refine' wpAnyH_take (i := 10) (oi := ⟨some 70, _, _, _, _, _⟩) (v := _) rfl (by kernel_rfl) (by kernel_rfl) (by kernel_rfl) (fun _ _ _ h => h) (Or.inl ⟨by rfl, ?y10c⟩) hS0 ?r10c
          case y10c =>
            intro w' hSw
            obtain ⟨c0, c1, c2, c3⟩ := HC.out _ hSw
            go_simp
            try rfl
          try simp only [Act.put, List.setIfInBounds_toArray, List.set_cons_zero, List.set_cons_succ]
          refine' wpAnyH_take (i := 11) (oi := ⟨some 71, _, _, _, _, _⟩) (v := _) rfl (by kernel_rfl) (by kernel_rfl) (by kernel_rfl) (fun _ _ _ h => h) (Or.inl ⟨by rfl, ?y11c⟩) hS0 ?r11c
          case y11c =>
            intro w' hSw
            obtain ⟨c0, c1, c2, c3⟩ := HC.out _ hSw
            go_simp
            try rfl
          try simp only [Act.put, List.setIfInBounds_toArray, List.set_cons_zero, List.set_cons_succ]
          refine' wpAnyH_take (i := 12) (oi := ⟨some 72, _, _, _, _, _⟩) (v := _) rfl (by kernel_rfl) (by kernel_rfl) (by kernel_rfl) (fun _ _ _ h => h) (Or.inl ⟨by rfl, ?y12c⟩) hS0 ?r12c
          case y12c =>
            intro w' hSw
            obtain ⟨c0, c1, c2, c3⟩ := HC.out _ hSw
            go_simp
            try rfl
          try simp only [Act.put, List.setIfInBounds_toArray, List.set_cons_zero, List.set_cons_succ]
          refine' wpAnyH_take (i := 13) (oi := ⟨some 73, _, _, _, _, _⟩) (v := _) rfl (by kernel_rfl) (by kernel_rfl) (by kernel_rfl) (fun _ _ _ h => h) (Or.inl ⟨by rfl, ?y13c⟩) hS0 ?r13c
          case y13c =>
            intro w' hSw
            obtain ⟨c0, c1, c2, c3⟩ := HC.out _ hSw
            go_simp
            try rfl
          try simp only [Act.put, List.setIfInBounds_toArray, List.set_cons_zero, List.set_cons_succ]
          refine' wpAnyH_take (i := 14) (oi := ⟨some 74, _, _, _, _, _⟩) (v := _) rfl (by kernel_rfl) (by kernel_rfl) (by kernel_rfl) (fun _ _ _ h => h) (Or.inl ⟨by rfl, ?y14c⟩) hS0 ?r14c
          case y14c =>
            intro w' hSw
            obtain ⟨c0, c1, c2, c3⟩ := HC.out _ hSw
            go_simp
            try rfl
          try simp only [Act.put, List.setIfInBounds_toArray, List.set_cons_zero, List.set_cons_succ]
          refine' wpAnyH_take (i := 15) (oi := ⟨some 75, _, _, _, _, _⟩) (v := _) rfl (by kernel_rfl) (by kernel_rfl) (by kernel_rfl) (fun _ _ _ h => h) (Or.inl ⟨by rfl, ?y15c⟩) hS0 ?r15c
          case y15c =>
            intro w' hSw
            obtain ⟨c0, c1, c2, c3⟩ := HC.out _ hSw
            go_simp
            try rfl
          try simp only [Act.put, List.setIfInBounds_toArray, List.set_cons_zero, List.set_cons_succ]
          refine' wpAnyH_take (i := 16) (oi := ⟨some 76, _, _, _, _, _⟩) (v := _) rfl (by kernel_rfl) (by kernel_rfl) (by kernel_rfl) (fun _ _ _ h => h) (Or.inl ⟨by rfl, ?y16c⟩) hS0 ?r16c
          case y16c =>
            intro w' hSw
            obtain ⟨c0, c1, c2, c3⟩ := HC.out _ hSw
            go_simp
            try rfl
          try simp only [Act.put, List.setIfInBounds_toArray, List.set_cons_zero, List.set_cons_succ]
          have hA2 : Below Z2.heap.size Z2 (Z2.alloc (.cells #[.int .i64 q.1, .int .i64 q.2, .slice A4 n4 c4] 44)) := (Below.refl _ _).alloc (Nat.le_refl _) _
          have hO2 := SlK.one (k := kFl) Z2 ⟨q, (A4, n4, c4)⟩ #[.int .i64 q.1, .int .i64 q.2, .slice A4 n4 c4] rfl
          have hM3 := hM2.more hA2
          refine held_one (i := 17) (by kernel_rfl) rfl (fun Kc hK => ?_)
          refine held_wanted' rfl (by rfl) ?_
          go_simp
          refine hK.out _ _ hM3.below (fun _ => ?_)
          clear hK Kc
          try simp only [Act.put, List.setIfInBounds_toArray, List.set_cons_zero, List.set_cons_succ]
          change SlK kFl (Z2.alloc (.cells #[.int .i64 q.1, .int .i64 q.2, .slice A4 n4 c4] 44)) _ _ at hO2
          generalize Z2.alloc (.cells #[.int .i64 q.1, .int .i64 q.2, .slice A4 n4 c4] 44) = Z3 at hO2 hM3 ⊢
          have HG := Lib.hid (fun (v' : Value) (W' : World) (ho : OwnK kFl W' w.heap.size v' (S.map shp ++ [⟨q, (A4, n4, c4)⟩])) (hg : Z3.grownBy W' (sv s).ownBlock) => hM3.grow hg ho HSL0.out)
          refine held_one (i := 18) (by kernel_rfl) rfl (fun Kc hK => ?_)
          refine held_wanted' rfl (by rfl) ?_
          refine heldOp_append_k (k := kFl) (.tmp 60) (.tmp 77) 31 rfl w.heap.size ifl (by kernel_rfl) hif1 hif2 hif3 hif4 (sv s) (S.map shp) rfl hM3.own _ [⟨q, (A4, n4, c4)⟩] rfl hO2 (by simp [maxLen]; omega) (by simp [kFl]; omega) hM3.below.size ?_
          intro v5 Z4 ho4 hg4 _
          obtain ⟨s4, rfl, hM4⟩ := HG.out v5 Z4 ho4 hg4
          refine hK.out _ _ hM4.below (fun _ => ?_)
          clear hK Kc
          try simp only [Act.put, List.setIfInBounds_toArray, List.set_cons_zero, List.set_cons_succ]
          refine' wpAnyH_take (i := 19) (oi := ⟨some 5, _, _, _, _, _⟩) (v := _) rfl (by kernel_rfl) (by kernel_rfl) (by kernel_rfl) (fun _ _ _ h => h) (Or.inl ⟨by rfl, ?y19c⟩) hM4.below ?r19c
          case y19c =>
            intro w' hSw
            go_simp
            try rfl
          try simp only [Act.put, List.setIfInBounds_toArray, List.set_cons_zero, List.set_cons_succ]
          refine wpAnyH_done (by kernel_rfl) ?_ _
          go_wp2
          go_roundw
          case rel => exact ⟨k + 1, lost', _, s4, _, by omega, by go_num, rfl, by omega, hM4, HA.out.put HSO.out q x4 (A4, n4, c4) l4, by simp; omega⟩
          case measure => simp [intOf]; omega
      · have hd : (kd == 1) = false := by simp [h1]
        have HC := HC0
        clear HC0
        go_upto_region 10 with fail
        refine wp_region_held_drew (S := fun X => Below w.heap.size w X) hfo (hM.below.trans ((show Below wr.heap.size wr wr.drew from (Below.refl _ _).drew).mono hM.below.size)) (fun hS0 => ?_)
        have hM1 := hM.more (show Below wr.heap.size wr wr.drew from (Below.refl _ _).drew)
        generalize wr.drew = Z1 at hS0 hM1 ⊢
        refine' wpAnyH_take (i := 0) (oi := ⟨some 33, _, _, _, _, _⟩) (v := _) rfl (by kernel_rfl) (by kernel_rfl) (by kernel_rfl) (fun _ _ _ h => h) (Or.inl ⟨by rfl, ?y0b⟩) hS0 ?r0b
        case y0b =>
          intro w' hSw
          obtain ⟨c0, c1, c2, c3⟩ := HC.out _ hSw
          go_simp
          try rfl
        try simp only [Act.put, List.setIfInBounds_toArray, List.set_cons_zero, List.set_cons_succ]
        refine' wpAnyH_take (i := 1) (oi := ⟨some 34, _, _, _, _, _⟩) (v := _) rfl (by kernel_rfl) (by kernel_rfl) (by kernel_rfl) (fun _ _ _ h => h) (Or.inl ⟨by rfl, ?y1b⟩) hS0 ?r1b
        case y1b =>
          intro w' hSw
          obtain ⟨c0, c1, c2, c3⟩ := HC.out _ hSw
          go_simp
          try rfl
        try simp only [Act.put, List.setIfInBounds_toArray, List.set_cons_zero, List.set_cons_succ]
        refine' wpAnyH_take (i := 2) (oi := ⟨some 35, _, _, _, _, _⟩) (v := _) rfl (by kernel_rfl) (by kernel_rfl) (by kernel_rfl) (fun _ _ _ h => h) (Or.inl ⟨by rfl, ?y2b⟩) hS0 ?r2b
        case y2b =>
          intro w' hSw
          obtain ⟨c0, c1, c2, c3⟩ := HC.out _ hSw
          go_simp
          try rfl
        try simp only [Act.put, List.setIfInBounds_toArray, List.set_cons_zero, List.set_cons_succ]
        refine' wpAnyH_take (i := 3) (oi := ⟨some 36, _, _, _, _, _⟩) (v := _) rfl (by kernel_rfl) (by kernel_rfl) (by kernel_rfl) (fun _ _ _ h => h) (Or.inl ⟨by rfl, ?y3b⟩) hS0 ?r3b
        case y3b =>
          intro w' hSw
          obtain ⟨c0, c1, c2, c3⟩ := HC.out _ hSw
          go_simp
          try rfl
        try simp only [Act.put, List.setIfInBounds_toArray, List.set_cons_zero, List.set_cons_succ]
        refine' wpAnyH_take (i := 4) (oi := ⟨some 37, _, _, _, _, _⟩) (v := _) rfl (by kernel_rfl) (by kernel_rfl) (by kernel_rfl) (fun _ _ _ h => h) (Or.inl ⟨by rfl, ?y4b⟩) hS0 ?r4b
        case y4b =>
          intro w' hSw
          obtain ⟨c0, c1, c2, c3⟩ := HC.out _ hSw
          go_simp
          try rfl
        try simp only [Act.put, List.setIfInBounds_toArray, List.set_cons_zero, List.set_cons_succ]
        refine' wpAnyH_take (i := 5) (oi := ⟨some 38, _, _, _, _, _⟩) (v := (.bool false)) rfl (by kernel_rfl) (by kernel_rfl) (by kernel_rfl) (fun _ _ _ h => h) (Or.inl ⟨by rfl, ?y5b⟩) hS0 ?r5b
        case y5b =>
          intro w' hSw
          go_simp
          try rw [hd]
          try rfl
        try simp only [Act.put, List.setIfInBounds_toArray, List.set_cons_zero, List.set_cons_succ]
        refine' wpAnyH_take (i := 6) (oi := ⟨some 39, _, _, _, _, _⟩) (v := _) rfl (by kernel_rfl) (by kernel_rfl) (by kernel_rfl) (fun _ _ _ h => h) (Or.inl ⟨by rfl, ?y6b⟩) hS0 ?r6b
        case y6b =>
          intro w' hSw
          go_simp
          try rfl
        try simp only [Act.put, List.setIfInBounds_toArray, List.set_cons_zero, List.set_cons_succ]
        refine' wpAnyH_take (i := 7) (oi := ⟨some 40, _, _, _, _, _⟩) (v := undef) rfl (by kernel_rfl) (by kernel_rfl) (by kernel_rfl) (fun _ _ _ h => h) (Or.inr ⟨by rfl, rfl⟩) hS0 ?r7b
        try simp only [Act.put, List.setIfInBounds_toArray, List.set_cons_zero, List.set_cons_succ]
        refine' wpAnyH_take (i := 8) (oi := ⟨some 41, _, _, _, _, _⟩) (v := undef) rfl (by kernel_rfl) (by kernel_rfl) (by kernel_rfl) (fun _ _ _ h => h) (Or.inr ⟨by rfl, rfl⟩) hS0 ?r8b
        try simp only [Act.put, List.setIfInBounds_toArray, List.set_cons_zero, List.set_cons_succ]
        refine' wpAnyH_take (i := 9) (oi := ⟨some 42, _, _, _, _, _⟩) (v := undef) rfl (by kernel_rfl) (by kernel_rfl) (by kernel_rfl) (fun _ _ _ h => h) (Or.inr ⟨by rfl, rfl⟩) hS0 ?r9b
        try simp only [Act.put, List.setIfInBounds_toArray, List.set_cons_zero, List.set_cons_succ]
        refine' wpAnyH_take (i := 10) (oi := ⟨some 43, _, _, _, _, _⟩) (v := undef) rfl (by kernel_rfl) (by kernel_rfl) (by kernel_rfl) (fun _ _ _ h => h) (Or.inr ⟨by rfl, rfl⟩) hS0 ?r10b
        try simp only [Act.put, List.setIfInBounds_toArray, List.set_cons_zero, List.set_cons_succ]
        refine' wpAnyH_take (i := 11) (oi := ⟨some 44, _, _, _, _, _⟩) (v := undef) rfl (by kernel_rfl) (by kernel_rfl) (by kernel_rfl) (fun _ _ _ h => h) (Or.inr ⟨by rfl, rfl⟩) hS0 ?r11b
        try simp only [Act.put, List.setIfInBounds_toArray, List.set_cons_zero, List.set_cons_succ]
        refine' wpAnyH_take (i := 12) (oi := ⟨some 45, _, _, _, _, _⟩) (v := undef) rfl (by kernel_rfl) (by kernel_rfl) (by kernel_rfl) (fun _ _ _ h => h) (Or.inr ⟨by rfl, rfl⟩) hS0 ?r12b
        try simp only [Act.put, List.setIfInBounds_toArray, List.set_cons_zero, List.set_cons_succ]
        refine' wpAnyH_take (i := 13) (oi := ⟨some 46, _, _, _, _, _⟩) (v := undef) rfl (by kernel_rfl) (by kernel_rfl) (by kernel_rfl) (fun _ _ _ h => h) (Or.inr ⟨by rfl, rfl⟩) hS0 ?r13b
        try simp only [Act.put, List.setIfInBounds_toArray, List.set_cons_zero, List.set_cons_succ]
        refine' wpAnyH_take (i := 14) (oi := ⟨some 47, _, _, _, _, _⟩) (v := undef) rfl (by kernel_rfl) (by kernel_rfl) (by kernel_rfl) (fun _ _ _ h => h) (Or.inr ⟨by rfl, rfl⟩) hS0 ?r14b
        try simp only [Act.put, List.setIfInBounds_toArray, List.set_cons_zero, List.set_cons_succ]
        refine' wpAnyH_take (i := 15) (oi := ⟨some 48, _, _, _, _, _⟩) (v := undef) rfl (by kernel_rfl) (by kernel_rfl) (by kernel_rfl) (fun _ _ _ h => h) (Or.inr ⟨by rfl, rfl⟩) hS0 ?r15b
        try simp only [Act.put, List.setIfInBounds_toArray, List.set_cons_zero, List.set_cons_succ]
        refine' wpAnyH_take (i := 16) (oi := ⟨some 49, _, _, _, _, _⟩) (v := undef) rfl (by kernel_rfl) (by kernel_rfl) (by kernel_rfl) (fun _ _ _ h => h) (Or.inr ⟨by rfl, rfl⟩) hS0 ?r16b
        try simp only [Act.put, List.setIfInBounds_toArray, List.set_cons_zero, List.set_cons_succ]
        refine' wpAnyH_take (i := 17) (oi := ⟨some 50, _, _, _, _, _⟩) (v := undef) rfl (by kernel_rfl) (by kernel_rfl) (by kernel_rfl) (fun _ _ _ h => h) (Or.inr ⟨by rfl, rfl⟩) hS0 ?r17b
        try simp only [Act.put, List.setIfInBounds_toArray, List.set_cons_zero, List.set_cons_succ]
        refine' wpAnyH_take (i := 18) (oi := ⟨some 51, _, _, _, _, _⟩) (v := undef) rfl (by kernel_rfl) (by kernel_rfl) (by kernel_rfl) (fun _ _ _ h => h) (Or.inr ⟨by rfl, rfl⟩) hS0 ?r18b
        try simp only [Act.put, List.setIfInBounds_toArray, List.set_cons_zero, List.set_cons_succ]
        refine' wpAnyH_take (i := 19) (oi := ⟨some 52, _, _, _, _, _⟩) (v := undef) rfl (by kernel_rfl) (by kernel_rfl) (by kernel_rfl) (fun _ _ _ h => h) (Or.inr ⟨by rfl, rfl⟩) hS0 ?r19b
        try simp only [Act.put, List.setIfInBounds_toArray, List.set_cons_zero, List.set_cons_succ]
        refine' wpAnyH_take (i := 20) (oi := ⟨some 53, _, _, _, _, _⟩) (v := undef) rfl (by kernel_rfl) (by kernel_rfl) (by kernel_rfl) (fun _ _ _ h => h) (Or.inr ⟨by rfl, rfl⟩) hS0 ?r20b
        try simp only [Act.put, List.setIfInBounds_toArray, List.set_cons_zero, List.set_cons_succ]
        refine' wpAnyH_take (i := 21) (oi := ⟨some 54, _, _, _, _, _⟩) (v := undef) rfl (by kernel_rfl) (by kernel_rfl) (by kernel_rfl) (fun _ _ _ h => h) (Or.inr ⟨by rfl, rfl⟩) hS0 ?r21b
        try simp only [Act.put, List.setIfInBounds_toArray, List.set_cons_zero, List.set_cons_succ]
        refine' wpAnyH_take (i := 22) (oi := ⟨some 55, _, _, _, _, _⟩) (v := undef) rfl (by kernel_rfl) (by kernel_rfl) (by kernel_rfl) (fun _ _ _ h => h) (Or.inr ⟨by rfl, rfl⟩) hS0 ?r22b
        try simp only [Act.put, List.setIfInBounds_toArray, List.set_cons_zero, List.set_cons_succ]
        refine' wpAnyH_take (i := 23) (oi := ⟨some 56, _, _, _, _, _⟩) (v := undef) rfl (by kernel_rfl) (by kernel_rfl) (by kernel_rfl) (fun _ _ _ h => h) (Or.inr ⟨by rfl, rfl⟩) hS0 ?r23b
        try simp only [Act.put, List.setIfInBounds_toArray, List.set_cons_zero, List.set_cons_succ]
        refine' wpAnyH_take (i := 24) (oi := ⟨some 57, _, _, _, _, _⟩) (v := undef) rfl (by kernel_rfl) (by kernel_rfl) (by kernel_rfl) (fun _ _ _ h => h) (Or.inr ⟨by rfl, rfl⟩) hS0 ?r24b
        try simp only [Act.put, List.setIfInBounds_toArray, List.set_cons_zero, List.set_cons_succ]
        refine' wpAnyH_take (i := 25) (oi := ⟨some 58, _, _, _, _, _⟩) (v := undef) rfl (by kernel_rfl) (by kernel_rfl) (by kernel_rfl) (fun _ _ _ h => h) (Or.inr ⟨by rfl, rfl⟩) hS0 ?r25b
        try simp only [Act.put, List.setIfInBounds_toArray, List.set_cons_zero, List.set_cons_succ]
        refine' wpAnyH_take (i := 26) (oi := ⟨some 59, _, _, _, _, _⟩) (v := _) rfl (by kernel_rfl) (by kernel_rfl) (by kernel_rfl) (fun _ _ _ h => h) (Or.inl ⟨by rfl, ?y26b⟩) hS0 ?r26b
        case y26b =>
          intro w' hSw
          go_simp
          try rfl
        try simp only [Act.put, List.setIfInBounds_toArray, List.set_cons_zero, List.set_cons_succ]
        refine wpAnyH_done (by kernel_rfl) ?_ _
        go_wp2
        go_roundw
        case rel => exact ⟨k + 1, lost, V, s, S, by omega, by go_num, rfl, by omega, hM1, HA.out, by omega⟩
        case measure => simp [intOf]; omega
    · obtain rfl : k = L.length := by omega
      obtain ⟨A6, c6, rfl⟩ := mm_row hM
      have hS60 : S.length ≤ 60 := by omega
      simp only [sv]
      go_wp2
      go_loopw [5, 7] (fun x z wr => ∃ (V : List (Fl Pl)) (S : List (Fl Pl)) (A6 : Option Addr) (c6 : Nat), z = .int .i64 (S.length : Int) ∧ x = .slice A6 S.length c6 ∧ Mm w wr p b lost V (A6, S.length, c6) S ∧ Alike V S ∧ S.length ≤ 60) (fun _ z _ => (intOf z).toNat)
      case atStart => exact ⟨V, S, A6, c6, rfl, rfl, hM, hA, hS60⟩
      case round =>
        clear hM hA hS60 hSl
        obtain ⟨V, S, A6, c6, rfl, rfl, hM, hA, hS60⟩ := hrel
        by_cases hpos : 0 < S.length
        · have hV : 0 < V.length := by rw [hA.len]; exact hpos
          obtain ⟨⟨bs, os, rfl⟩, _, hcap⟩ := mm_some hM hpos
          have hposI : (0 : Int) < (S.length : Int) := by omega
          obtain ⟨q, hq⟩ : ∃ q, V[0].p = q := ⟨_, rfl⟩
          obtain ⟨lq, hlq⟩ : ∃ l, V[0].x.2 = l := ⟨_, rfl⟩
          have HTK := Lib.hid (show Calls Try.prog 19 #[.pointer (some ⟨p, 0, none⟩), .int .i64 0] _ (TakeM w p b lost (V.eraseIdx 0) (some ⟨bs, os, none⟩, S.length, c6) S q lq) from hq ▸ hlq ▸ mm_take hM 0 hV _ (Below.refl _ _))
          go_upto_region 16 with (go_at_call 19; refine HTK.out.mono ?_; rintro e B ⟨t0, t1, t2, rfl, hsB, hM1⟩)
          have hal : Below B.heap.size B (B.alloc (.cells #[.int .i64 q.1, .int .i64 q.2, .slice t0 t1 t2] 44)) := (Below.refl _ _).alloc (Nat.le_refl _) _
          have hM2 := hM1.more hal
          have hf2 : Blk (B.alloc (.cells #[.int .i64 q.1, .int .i64 q.2, .slice t0 t1 t2] 44)) B.heap.size 44 #[.int .i64 q.1, .int .i64 q.2, .slice t0 t1 t2] := Blk.new B _ _
          have hs2 := hsB.below hal
          clear hM1 hsB hal HTK
          obtain ⟨fb, hfb⟩ : ∃ z, B.heap.size = z := ⟨_, rfl⟩
          rw [hfb] at hf2
          rw [hfb]
          generalize B.alloc (.cells #[.int .i64 q.1, .int .i64 q.2, .slice t0 t1 t2] 44) = X at hM2 hf2 hs2 ⊢
          clear hfb
          have HE := Lib.hid (fun Y hY j hj => mm_cells hM2 Y hY j hj)
          have HFC := Lib.hid (show ∀ Y, Below X.heap.size X Y → Y.cell? ⟨fb, 0, none⟩ = some (.int .i64 q.1) ∧ Y.cell? ⟨fb, 1, none⟩ = some (.int .i64 q.2) ∧ Y.cell? ⟨fb, 2, none⟩ = some (.slice t0 t1 t2) from fun Y hY => by
            have hf3 := hf2.below hY hf2.lt
            exact ⟨by rw [hf3.cell]; rfl, by rw [hf3.cell]; rfl, by rw [hf3.cell]; rfl⟩)
          go_wp2
          go_loopw [10] (fun z wx => ∃ i : Nat, i ≤ S.length ∧ z = .int .i64 (i : Int) ∧ Below X.heap.size X wx ∧ Hid (∀ j (h : j < S.length), j < i → S[j].p ≠ q)) (fun z _ => S.length - (intOf z).toNat)
          case atStart => exact ⟨0, Nat.zero_le _, rfl, Below.refl _ _, Lib.hid fun j _ h => absurd h (by omega)⟩
          case round =>
            obtain ⟨i, hil, rfl, hbx, hj⟩ := hrel
            rcases Nat.lt_or_ge i S.length with hi | hi
            rotate_left
            · exact (hA.there 0 hV hil (by rw [hq]; exact hj.out) (by omega)).elim
            have hiI : (i : Int) < (S.length : Int) := by omega
            have hi0 : (0 : Int) ≤ (i : Int) := by omega
            have hi60 : (i : Int) ≤ 60 := by omega
            by_cases e1 : S[i].p.1 = q.1
            · have hd1 : (S[i].p.1 != q.1) = false := by simp [e1]
              by_cases e2 : S[i].p.2 = q.2
              · have hd2 : (S[i].p.2 != q.2) = false := by simp [e2]
                have hp : S[i].p = q := Prod.ext e1 e2
                obtain ⟨hb1, hA1⟩ := hA.first 0 hV (nth_nought _ _) hi (hp.trans hq.symm) (by rw [hq]; exact hj.out)
                rw [hlq] at hb1
                go_upto_region 17 with fail
                refine wp_region_held_drew (S := fun Y => Below X.heap.size X Y) hfo (hbx.trans ((show Below wr.heap.size wr wr.drew from (Below.refl _ _).drew).mono hbx.size)) (fun hS0 => ?_)
                generalize wr.drew = wy at hS0 ⊢
                refine' wpAnyH_take (i := 0) (oi := ⟨some 90, _, _, _, _, _⟩) (v := _) rfl (by kernel_rfl) (by kernel_rfl) (by kernel_rfl) (fun _ _ _ h => h) (Or.inl ⟨by rfl, ?y0de⟩) hS0 ?r0de
                case y0de =>
                  intro w' hSw
                  obtain ⟨d0, d1, d2⟩ := HE.out _ hSw i hi; obtain ⟨f0, f1, f2⟩ := HFC.out _ hSw
                  go_simp
                  try simp only [hd1, hd2]
                  try rfl
                try simp only [Act.put, List.setIfInBounds_toArray, List.set_cons_zero, List.set_cons_succ]
                refine' wpAnyH_take (i := 1) (oi := ⟨some 91, _, _, _, _, _⟩) (v := _) rfl (by kernel_rfl) (by kernel_rfl) (by kernel_rfl) (fun _ _ _ h => h) (Or.inl ⟨by rfl, ?y1de⟩) hS0 ?r1de
                case y1de =>
                  intro w' hSw
                  obtain ⟨d0, d1, d2⟩ := HE.out _ hSw i hi; obtain ⟨f0, f1, f2⟩ := HFC.out _ hSw
                  go_simp
                  try simp only [hd1, hd2]
                  try rfl
                try simp only [Act.put, List.setIfInBounds_toArray, List.set_cons_zero, List.set_cons_succ]
                refine' wpAnyH_take (i := 2) (oi := ⟨some 92, _, _, _, _, _⟩) (v := _) rfl (by kernel_rfl) (by kernel_rfl) (by kernel_rfl) (fun _ _ _ h => h) (Or.inl ⟨by rfl, ?y2de⟩) hS0 ?r2de
                case y2de =>
                  intro w' hSw
                  obtain ⟨d0, d1, d2⟩ := HE.out _ hSw i hi; obtain ⟨f0, f1, f2⟩ := HFC.out _ hSw
                  go_simp
                  try simp only [hd1, hd2]
                  try rfl
                try simp only [Act.put, List.setIfInBounds_toArray, List.set_cons_zero, List.set_cons_succ]
                refine' wpAnyH_take (i := 3) (oi := ⟨some 93, _, _, _, _, _⟩) (v := _) rfl (by kernel_rfl) (by kernel_rfl) (by kernel_rfl) (fun _ _ _ h => h) (Or.inl ⟨by rfl, ?y3de⟩) hS0 ?r3de
                case y3de =>
                  intro w' hSw
                  obtain ⟨d0, d1, d2⟩ := HE.out _ hSw i hi; obtain ⟨f0, f1, f2⟩ := HFC.out _ hSw
                  go_simp
                  try simp only [hd1, hd2]
                  try rfl
                try simp only [Act.put, List.setIfInBounds_toArray, List.set_cons_zero, List.set_cons_succ]
                refine' wpAnyH_take (i := 4) (oi := ⟨some 94, _, _, _, _, _⟩) (v := _) rfl (by kernel_rfl) (by kernel_rfl) (by kernel_rfl) (fun _ _ _ h => h) (Or.inl ⟨by rfl, ?y4de⟩) hS0 ?r4de
                case y4de =>
                  intro w' hSw
                  obtain ⟨d0, d1, d2⟩ := HE.out _ hSw i hi; obtain ⟨f0, f1, f2⟩ := HFC.out _ hSw
                  go_simp
                  try simp only [hd1, hd2]
                  try rfl
                try simp only [Act.put, List.setIfInBounds_toArray, List.set_cons_zero, List.set_cons_succ]
                refine' wpAnyH_take (i := 5) (oi := ⟨some 95, _, _, _, _, _⟩) (v := _) rfl (by kernel_rfl) (by kernel_rfl) (by kernel_rfl) (fun _ _ _ h => h) (Or.inl ⟨by rfl, ?y5de⟩) hS0 ?r5de
                case y5de =>
                  intro w' hSw
                  obtain ⟨d0, d1, d2⟩ := HE.out _ hSw i hi; obtain ⟨f0, f1, f2⟩ := HFC.out _ hSw
                  go_simp
                  try simp only [hd1, hd2]
                  try rfl
                try simp only [Act.put, List.setIfInBounds_toArray, List.set_cons_zero, List.set_cons_succ]
                refine' wpAnyH_take (i := 6) (oi := ⟨some 96, _, _, _, _, _⟩) (v := _) rfl (by kernel_rfl) (by kernel_rfl) (by kernel_rfl) (fun _ _ _ h => h) (Or.inl ⟨by rfl, ?y6de⟩) hS0 ?r6de
                case y6de =>
                  intro w' hSw
                  obtain ⟨d0, d1, d2⟩ := HE.out _ hSw i hi; obtain ⟨f0, f1, f2⟩ := HFC.out _ hSw
                  go_simp
                  try simp only [hd1, hd2]
                  try rfl
                try simp only [Act.put, List.setIfInBounds_toArray, List.set_cons_zero, List.set_cons_succ]
                refine' wpAnyH_take (i := 7) (oi := ⟨some 97, _, _, _, _, _⟩) (v := _) rfl (by kernel_rfl) (by kernel_rfl) (by kernel_rfl) (fun _ _ _ h => h) (Or.inl ⟨by rfl, ?y7de⟩) hS0 ?r7de
                case y7de =>
                  intro w' hSw
                  obtain ⟨d0, d1, d2⟩ := HE.out _ hSw i hi; obtain ⟨f0, f1, f2⟩ := HFC.out _ hSw
                  go_simp
                  try simp only [hd1, hd2]
                  try rfl
                try simp only [Act.put, List.setIfInBounds_toArray, List.set_cons_zero, List.set_cons_succ]
                refine' wpAnyH_take (i := 8) (oi := ⟨some 98, _, _, _, _, _⟩) (v := _) rfl (by kernel_rfl) (by kernel_rfl) (by kernel_rfl) (fun _ _ _ h => h) (Or.inl ⟨by rfl, ?y8de⟩) hS0 ?r8de
                case y8de =>
                  intro w' hSw
                  obtain ⟨d0, d1, d2⟩ := HE.out _ hSw i hi; obtain ⟨f0, f1, f2⟩ := HFC.out _ hSw
                  go_simp
                  try simp only [hd1, hd2]
                  try rfl
                try simp only [Act.put, List.setIfInBounds_toArray, List.set_cons_zero, List.set_cons_succ]
                refine' wpAnyH_take (i := 9) (oi := ⟨some 99, _, _, _, _, _⟩) (v := _) rfl (by kernel_rfl) (by kernel_rfl) (by kernel_rfl) (fun _ _ _ h => h) (Or.inl ⟨by rfl, ?y9de⟩) hS0 ?r9de
                case y9de =>
                  intro w' hSw
                  obtain ⟨d0, d1, d2⟩ := HE.out _ hSw i hi; obtain ⟨f0, f1, f2⟩ := HFC.out _ hSw
                  go_simp
                  try simp only [hd1, hd2]
                  try rfl
                try simp only [Act.put, List.setIfInBounds_toArray, List.set_cons_zero, List.set_cons_succ]
                refine' wpAnyH_take (i := 10) (oi := ⟨some 100, _, _, _, _, _⟩) (v := _) rfl (by kernel_rfl) (by kernel_rfl) (by kernel_rfl) (fun _ _ _ h => h) (Or.inl ⟨by rfl, ?y10de⟩) hS0 ?r10de
                case y10de =>
                  intro w' hSw
                  obtain ⟨d0, d1, d2⟩ := HE.out _ hSw i hi; obtain ⟨f0, f1, f2⟩ := HFC.out _ hSw
                  go_simp
                  try simp only [hd1, hd2]
                  try rfl
                try simp only [Act.put, List.setIfInBounds_toArray, List.set_cons_zero, List.set_cons_succ]
                refine' wpAnyH_take (i := 11) (oi := ⟨some 101, _, _, _, _, _⟩) (v := _) rfl (by kernel_rfl) (by kernel_rfl) (by kernel_rfl) (fun _ _ _ h => h) (Or.inl ⟨by rfl, ?y11de⟩) hS0 ?r11de
                case y11de =>
                  intro w' hSw
                  obtain ⟨d0, d1, d2⟩ := HE.out _ hSw i hi; obtain ⟨f0, f1, f2⟩ := HFC.out _ hSw
                  go_simp
                  try simp only [hd1, hd2]
                  try rfl
                try simp only [Act.put, List.setIfInBounds_toArray, List.set_cons_zero, List.set_cons_succ]
                refine' wpAnyH_take (i := 12) (oi := ⟨some 102, _, _, _, _, _⟩) (v := (.bool false)) rfl (by kernel_rfl) (by kernel_rfl) (by kernel_rfl) (fun _ _ _ h => h) (Or.inl ⟨by rfl, ?y12de⟩) hS0 ?r12de
                case y12de =>
                  intro w' hSw
                  obtain ⟨d0, d1, d2⟩ := HE.out _ hSw i hi; obtain ⟨f0, f1, f2⟩ := HFC.out _ hSw
                  go_simp
                  try simp only [hd1, hd2]
                  try rfl
                try simp only [Act.put, List.setIfInBounds_toArray, List.set_cons_zero, List.set_cons_succ]
                refine' wpAnyH_take (i := 13) (oi := ⟨some 103, _, _, _, _, _⟩) (v := (.bool false)) rfl (by kernel_rfl) (by kernel_rfl) (by kernel_rfl) (fun _ _ _ h => h) (Or.inl ⟨by rfl, ?y13de⟩) hS0 ?r13de
                case y13de =>
                  intro w' hSw
                  obtain ⟨d0, d1, d2⟩ := HE.out _ hSw i hi; obtain ⟨f0, f1, f2⟩ := HFC.out _ hSw
                  go_simp
                  try simp only [hd1, hd2]
                  try rfl
                try simp only [Act.put, List.setIfInBounds_toArray, List.set_cons_zero, List.set_cons_succ]
                refine' wpAnyH_take (i := 14) (oi := ⟨some 104, _, _, _, _, _⟩) (v := _) rfl (by kernel_rfl) (by kernel_rfl) (by kernel_rfl) (fun _ _ _ h => h) (Or.inl ⟨by rfl, ?y14de⟩) hS0 ?r14de
                case y14de =>
                  intro w' hSw
                  obtain ⟨d0, d1, d2⟩ := HE.out _ hSw i hi; obtain ⟨f0, f1, f2⟩ := HFC.out _ hSw
                  go_simp
                  try simp only [hd1, hd2]
                  try rfl
                try simp only [Act.put, List.setIfInBounds_toArray, List.set_cons_zero, List.set_cons_succ]
                refine' wpAnyH_take (i := 15) (oi := ⟨some 105, _, _, _, _, _⟩) (v := _) rfl (by kernel_rfl) (by kernel_rfl) (by kernel_rfl) (fun _ _ _ h => h) (Or.inl ⟨by rfl, ?y15de⟩) hS0 ?r15de
                case y15de =>
                  intro w' hSw
                  obtain ⟨d0, d1, d2⟩ := HE.out _ hSw i hi; obtain ⟨f0, f1, f2⟩ := HFC.out _ hSw
                  go_simp
                  try simp only [hd1, hd2]
                  try rfl
                try simp only [Act.put, List.setIfInBounds_toArray, List.set_cons_zero, List.set_cons_succ]
                refine' wpAnyH_take (i := 16) (oi := ⟨some 106, _, _, _, _, _⟩) (v := _) rfl (by kernel_rfl) (by kernel_rfl) (by kernel_rfl) (fun _ _ _ h => h) (Or.inl ⟨by rfl, ?y16de⟩) hS0 ?r16de
                case y16de =>
                  intro w' hSw
                  obtain ⟨d0, d1, d2⟩ := HE.out _ hSw i hi; obtain ⟨f0, f1, f2⟩ := HFC.out _ hSw
                  go_simp
                  try simp only [hd1, hd2]
                  try rfl
                try simp only [Act.put, List.setIfInBounds_toArray, List.set_cons_zero, List.set_cons_succ]
                refine' wpAnyH_take (i := 17) (oi := ⟨some 107, _, _, _, _, _⟩) (v := _) rfl (by kernel_rfl) (by kernel_rfl) (by kernel_rfl) (fun _ _ _ h => h) (Or.inl ⟨by rfl, ?y17de⟩) hS0 ?r17de
                case y17de =>
                  intro w' hSw
                  obtain ⟨d0, d1, d2⟩ := HE.out _ hSw i hi; obtain ⟨f0, f1, f2⟩ := HFC.out _ hSw
                  go_simp
                  try simp only [hd1, hd2]
                  try rfl
                try simp only [Act.put, List.setIfInBounds_toArray, List.set_cons_zero, List.set_cons_succ]
                refine' wpAnyH_take (i := 18) (oi := ⟨some 108, _, _, _, _, _⟩) (v := _) rfl (by kernel_rfl) (by kernel_rfl) (by kernel_rfl) (fun _ _ _ h => h) (Or.inl ⟨by rfl, ?y18de⟩) hS0 ?r18de
                case y18de =>
                  intro w' hSw
                  obtain ⟨d0, d1, d2⟩ := HE.out _ hSw i hi; obtain ⟨f0, f1, f2⟩ := HFC.out _ hSw
                  go_simp
                  try simp only [hd1, hd2]
                  try rfl
                try simp only [Act.put, List.setIfInBounds_toArray, List.set_cons_zero, List.set_cons_succ]
                refine' wpAnyH_take (i := 19) (oi := ⟨some 109, _, _, _, _, _⟩) (v := _) rfl (by kernel_rfl) (by kernel_rfl) (by kernel_rfl) (fun _ _ _ h => h) (Or.inl ⟨by rfl, ?y19de⟩) hS0 ?r19de
                case y19de =>
                  intro w' hSw
                  obtain ⟨d0, d1, d2⟩ := HE.out _ hSw i hi; obtain ⟨f0, f1, f2⟩ := HFC.out _ hSw
                  go_simp
                  try simp only [hd1, hd2]
                  try rfl
                try simp only [Act.put, List.setIfInBounds_toArray, List.set_cons_zero, List.set_cons_succ]
                refine' wpAnyH_take (i := 20) (oi := ⟨some 110, _, _, _, _, _⟩) (v := _) rfl (by kernel_rfl) (by kernel_rfl) (by kernel_rfl) (fun _ _ _ h => h) (Or.inl ⟨by rfl, ?y20de⟩) hS0 ?r20de
                case y20de =>
                  intro w' hSw
                  obtain ⟨d0, d1, d2⟩ := HE.out _ hSw i hi; obtain ⟨f0, f1, f2⟩ := HFC.out _ hSw
                  go_simp
                  try simp only [hd1, hd2]
                  try rfl
                try simp only [Act.put, List.setIfInBounds_toArray, List.set_cons_zero, List.set_cons_succ]
                refine' wpAnyH_take (i := 21) (oi := ⟨some 111, _, _, _, _, _⟩) (v := (.bool false)) rfl (by kernel_rfl) (by kernel_rfl) (by kernel_rfl) (fun _ _ _ h => h) (Or.inl ⟨by rfl, ?y21de⟩) hS0 ?r21de
                case y21de =>
                  intro w' hSw
                  obtain ⟨d0, d1, d2⟩ := HE.out _ hSw i hi; obtain ⟨f0, f1, f2⟩ := HFC.out _ hSw
                  go_simp
                  try simp only [hd1, hd2]
                  try rfl
                try simp only [Act.put, List.setIfInBounds_toArray, List.set_cons_zero, List.set_cons_succ]
                refine' wpAnyH_take (i := 22) (oi := ⟨some 112, _, _, _, _, _⟩) (v := (.bool false)) rfl (by kernel_rfl) (by kernel_rfl) (by kernel_rfl) (fun _ _ _ h => h) (Or.inl ⟨by rfl, ?y22de⟩) hS0 ?r22de
                case y22de =>
                  intro w' hSw
                  obtain ⟨d0, d1, d2⟩ := HE.out _ hSw i hi; obtain ⟨f0, f1, f2⟩ := HFC.out _ hSw
                  go_simp
                  try simp only [hd1, hd2]
                  try rfl
                try simp only [Act.put, List.setIfInBounds_toArray, List.set_cons_zero, List.set_cons_succ]
                refine' wpAnyH_take (i := 23) (oi := ⟨some 113, _, _, _, _, _⟩) (v := (.bool false)) rfl (by kernel_rfl) (by kernel_rfl) (by kernel_rfl) (fun _ _ _ h => h) (Or.inl ⟨by rfl, ?y23de⟩) hS0 ?r23de
                case y23de =>
                  intro w' hSw
                  obtain ⟨d0, d1, d2⟩ := HE.out _ hSw i hi; obtain ⟨f0, f1, f2⟩ := HFC.out _ hSw
                  go_simp
                  try simp only [hd1, hd2]
                  try rfl
                try simp only [Act.put, List.setIfInBounds_toArray, List.set_cons_zero, List.set_cons_succ]
                refine wpAnyH_done (by kernel_rfl) ?_ _
                have hne : ((i : Int) == (S.length : Int)) = false := by simp; omega
                have HSM := Lib.hid (show ∀ Y, Below X.heap.size X Y → Calls Try.prog 26 #[.agg #[.int .i64 q.1, .int .i64 q.2, sv S[i].x.1], .agg #[.int .i64 q.1, .int .i64 q.2, .slice t0 t1 t2]] Y fun e w' => e = .returned (.bool true) ∧ Below Y.heap.size Y w' from fun Y hY => by
                  refine (same_any q q _ _ S[i].x.2 lq Y ((hM2.by_ _ (List.getElem_mem hi)).below (hM2.below.trans (hY.mono hM2.below.size))) (hs2.below hY)).mono fun e w' he => ?_
                  have hsb : sameB q S[i].x.2 q lq = true := by rw [hb1]; simp [sameB]
                  rw [hsb] at he
                  exact he)
                go_upto_region 19 with fail
                refine wp_region_held_drew (S := fun Y => Below X.heap.size X Y) hfo (hS0.trans ((show Below wy.heap.size wy wy.drew from (Below.refl _ _).drew).mono hS0.size)) (fun hS1 => ?_)
                generalize wy.drew = wz at hS1 ⊢
                refine' wpAnyH_take (i := 0) (oi := ⟨some 116, _, _, _, _, _⟩) (v := _) rfl (by kernel_rfl) (by kernel_rfl) (by kernel_rfl) (fun _ _ _ h => h) (Or.inl ⟨by rfl, ?y0e⟩) hS1 ?r0e
                case y0e =>
                  intro w' hSw
                  obtain ⟨d0, d1, d2⟩ := HE.out _ hSw i hi; obtain ⟨f0, f1, f2⟩ := HFC.out _ hSw
                  go_simp
                  try simp only [hne]
                  try rfl
                try simp only [Act.put, List.setIfInBounds_toArray, List.set_cons_zero, List.set_cons_succ]
                refine held_one (i := 1) (by kernel_rfl) rfl (fun Kc hK => ?_)
                refine held_wanted' rfl (by rfl) ?_
                go_simp
                refine (num_any 0 wz).mono ?_
                rintro e wz2 ⟨rfl, hzz⟩
                obtain rfl := hzz.symm
                refine hK.out _ _ hS1 (fun _ => ?_)
                clear hK Kc
                try simp only [Act.put, List.setIfInBounds_toArray, List.set_cons_zero, List.set_cons_succ]
                refine' wpAnyH_take (i := 2) (oi := ⟨some 118, _, _, _, _, _⟩) (v := _) rfl (by kernel_rfl) (by kernel_rfl) (by kernel_rfl) (fun _ _ _ h => h) (Or.inl ⟨by rfl, ?y2e⟩) hS1 ?r2e
                case y2e =>
                  intro w' hSw
                  obtain ⟨d0, d1, d2⟩ := HE.out _ hSw i hi; obtain ⟨f0, f1, f2⟩ := HFC.out _ hSw
                  go_simp
                  try simp only [hne]
                  try rfl
                try simp only [Act.put, List.setIfInBounds_toArray, List.set_cons_zero, List.set_cons_succ]
                refine' wpAnyH_take (i := 3) (oi := ⟨some 119, _, _, _, _, _⟩) (v := _) rfl (by kernel_rfl) (by kernel_rfl) (by kernel_rfl) (fun _ _ _ h => h) (Or.inl ⟨by rfl, ?y3e⟩) hS1 ?r3e
                case y3e =>
                  intro w' hSw
                  obtain ⟨d0, d1, d2⟩ := HE.out _ hSw i hi; obtain ⟨f0, f1, f2⟩ := HFC.out _ hSw
                  go_simp
                  try simp only [hne]
                  try rfl
                try simp only [Act.put, List.setIfInBounds_toArray, List.set_cons_zero, List.set_cons_succ]
                refine' wpAnyH_take (i := 4) (oi := ⟨some 120, _, _, _, _, _⟩) (v := _) rfl (by kernel_rfl) (by kernel_rfl) (by kernel_rfl) (fun _ _ _ h => h) (Or.inl ⟨by rfl, ?y4e⟩) hS1 ?r4e
                case y4e =>
                  intro w' hSw
                  obtain ⟨d0, d1, d2⟩ := HE.out _ hSw i hi; obtain ⟨f0, f1, f2⟩ := HFC.out _ hSw
                  go_simp
                  try simp only [hne]
                  try rfl
                try simp only [Act.put, List.setIfInBounds_toArray, List.set_cons_zero, List.set_cons_succ]
                refine' wpAnyH_take (i := 5) (oi := ⟨some 121, _, _, _, _, _⟩) (v := _) rfl (by kernel_rfl) (by kernel_rfl) (by kernel_rfl) (fun _ _ _ h => h) (Or.inl ⟨by rfl, ?y5e⟩) hS1 ?r5e
                case y5e =>
                  intro w' hSw
                  obtain ⟨d0, d1, d2⟩ := HE.out _ hSw i hi; obtain ⟨f0, f1, f2⟩ := HFC.out _ hSw
                  go_simp
                  try simp only [hne]
                  try rfl
                try simp only [Act.put, List.setIfInBounds_toArray, List.set_cons_zero, List.set_cons_succ]
                refine' wpAnyH_take (i := 6) (oi := ⟨some 122, _, _, _, _, _⟩) (v := _) rfl (by kernel_rfl) (by kernel_rfl) (by kernel_rfl) (fun _ _ _ h => h) (Or.inl ⟨by rfl, ?y6e⟩) hS1 ?r6e
                case y6e =>
                  intro w' hSw
                  obtain ⟨d0, d1, d2⟩ := HE.out _ hSw i hi; obtain ⟨f0, f1, f2⟩ := HFC.out _ hSw
                  go_simp
                  try simp only [hne]
                  try rfl
                try simp only [Act.put, List.setIfInBounds_toArray, List.set_cons_zero, List.set_cons_succ]
                refine' wpAnyH_take (i := 7) (oi := ⟨some 123, _, _, _, _, _⟩) (v := (.bool false)) rfl (by kernel_rfl) (by kernel_rfl) (by kernel_rfl) (fun _ _ _ h => h) (Or.inl ⟨by rfl, ?y7e⟩) hS1 ?r7e
                case y7e =>
                  intro w' hSw
                  obtain ⟨d0, d1, d2⟩ := HE.out _ hSw i hi; obtain ⟨f0, f1, f2⟩ := HFC.out _ hSw
                  go_simp
                  try simp only [hne]
                  try rfl
                try simp only [Act.put, List.setIfInBounds_toArray, List.set_cons_zero, List.set_cons_succ]
                refine' wpAnyH_take (i := 8) (oi := ⟨some 124, _, _, _, _, _⟩) (v := (.bool false)) rfl (by kernel_rfl) (by kernel_rfl) (by kernel_rfl) (fun _ _ _ h => h) (Or.inl ⟨by rfl, ?y8e⟩) hS1 ?r8e
                case y8e =>
                  intro w' hSw
                  obtain ⟨d0, d1, d2⟩ := HE.out _ hSw i hi; obtain ⟨f0, f1, f2⟩ := HFC.out _ hSw
                  go_simp
                  try simp only [hne]
                  try rfl
                try simp only [Act.put, List.setIfInBounds_toArray, List.set_cons_zero, List.set_cons_succ]
                refine' wpAnyH_take (i := 9) (oi := ⟨some 125, _, _, _, _, _⟩) (v := (.bool false)) rfl (by kernel_rfl) (by kernel_rfl) (by kernel_rfl) (fun _ _ _ h => h) (Or.inl ⟨by rfl, ?y9e⟩) hS1 ?r9e
                case y9e =>
                  intro w' hSw
                  obtain ⟨d0, d1, d2⟩ := HE.out _ hSw i hi; obtain ⟨f0, f1, f2⟩ := HFC.out _ hSw
                  go_simp
                  try simp only [hne]
                  try rfl
                try simp only [Act.put, List.setIfInBounds_toArray, List.set_cons_zero, List.set_cons_succ]
                refine' wpAnyH_take (i := 10) (oi := ⟨some 126, _, _, _, _, _⟩) (v := _) rfl (by kernel_rfl) (by kernel_rfl) (by kernel_rfl) (fun _ _ _ h => h) (Or.inl ⟨by rfl, ?y10e⟩) hS1 ?r10e
                case y10e =>
                  intro w' hSw
                  obtain ⟨d0, d1, d2⟩ := HE.out _ hSw i hi; obtain ⟨f0, f1, f2⟩ := HFC.out _ hSw
                  go_simp
                  try simp only [hne]
                  try rfl
                try simp only [Act.put, List.setIfInBounds_toArray, List.set_cons_zero, List.set_cons_succ]
                refine' wpAnyH_take (i := 11) (oi := ⟨some 127, _, _, _, _, _⟩) (v := _) rfl (by kernel_rfl) (by kernel_rfl) (by kernel_rfl) (fun _ _ _ h => h) (Or.inl ⟨by rfl, ?y11e⟩) hS1 ?r11e
                case y11e =>
                  intro w' hSw
                  obtain ⟨d0, d1, d2⟩ := HE.out _ hSw i hi; obtain ⟨f0, f1, f2⟩ := HFC.out _ hSw
                  go_simp
                  try simp only [hne]
                  try rfl
                try simp only [Act.put, List.setIfInBounds_toArray, List.set_cons_zero, List.set_cons_succ]
                refine' wpAnyH_take (i := 12) (oi := ⟨some 128, _, _, _, _, _⟩) (v := _) rfl (by kernel_rfl) (by kernel_rfl) (by kernel_rfl) (fun _ _ _ h => h) (Or.inl ⟨by rfl, ?y12e⟩) hS1 ?r12e
                case y12e =>
                  intro w' hSw
                  obtain ⟨d0, d1, d2⟩ := HE.out _ hSw i hi; obtain ⟨f0, f1, f2⟩ := HFC.out _ hSw
                  go_simp
                  try simp only [hne]
                  try rfl
                try simp only [Act.put, List.setIfInBounds_toArray, List.set_cons_zero, List.set_cons_succ]
                refine' wpAnyH_take (i := 13) (oi := ⟨some 129, _, _, _, _, _⟩) (v := (.agg #[.int .i64 q.1, .int .i64 q.2, sv S[i].x.1])) rfl (by kernel_rfl) (by kernel_rfl) (by kernel_rfl) (fun _ _ _ h => h) (Or.inl ⟨by rfl, ?y13e⟩) hS1 ?r13e
                case y13e =>
                  intro w' hSw
                  obtain ⟨d0, d1, d2⟩ := HE.out _ hSw i hi; obtain ⟨f0, f1, f2⟩ := HFC.out _ hSw
                  go_simp
                  try simp only [hne]
                  try rfl
                try simp only [Act.put, List.setIfInBounds_toArray, List.set_cons_zero, List.set_cons_succ]
                refine' wpAnyH_take (i := 14) (oi := ⟨some 130, _, _, _, _, _⟩) (v := (.agg #[.int .i64 q.1, .int .i64 q.2, .slice t0 t1 t2])) rfl (by kernel_rfl) (by kernel_rfl) (by kernel_rfl) (fun _ _ _ h => h) (Or.inl ⟨by rfl, ?y14e⟩) hS1 ?r14e
                case y14e =>
                  intro w' hSw
                  obtain ⟨d0, d1, d2⟩ := HE.out _ hSw i hi; obtain ⟨f0, f1, f2⟩ := HFC.out _ hSw
                  go_simp
                  try simp only [hne]
                  try rfl
                try simp only [Act.put, List.setIfInBounds_toArray, List.set_cons_zero, List.set_cons_succ]
                refine held_one (i := 15) (by kernel_rfl) rfl (fun Kc hK => ?_)
                refine held_wanted' rfl (by rfl) ?_
                go_simp
                refine (HSM.out _ hS1).mono ?_
                rintro e wz3 ⟨rfl, hb3⟩
                have hS2 := hS1.trans (hb3.mono hS1.size)
                refine hK.out _ _ hS2 (fun _ => ?_)
                clear hK Kc
                try simp only [Act.put, List.setIfInBounds_toArray, List.set_cons_zero, List.set_cons_succ]
                refine' wpAnyH_take (i := 16) (oi := ⟨some 132, _, _, _, _, _⟩) (v := _) rfl (by kernel_rfl) (by kernel_rfl) (by kernel_rfl) (fun _ _ _ h => h) (Or.inl ⟨by rfl, ?y16e⟩) hS2 ?r16e
                case y16e =>
                  intro w' hSw
                  obtain ⟨d0, d1, d2⟩ := HE.out _ hSw i hi; obtain ⟨f0, f1, f2⟩ := HFC.out _ hSw
                  go_simp
                  try simp only [hne]
                  try rfl
                try simp only [Act.put, List.setIfInBounds_toArray, List.set_cons_zero, List.set_cons_succ]
                refine' wpAnyH_take (i := 17) (oi := ⟨some 133, _, _, _, _, _⟩) (v := _) rfl (by kernel_rfl) (by kernel_rfl) (by kernel_rfl) (fun _ _ _ h => h) (Or.inl ⟨by rfl, ?y17e⟩) hS2 ?r17e
                case y17e =>
                  intro w' hSw
                  obtain ⟨d0, d1, d2⟩ := HE.out _ hSw i hi; obtain ⟨f0, f1, f2⟩ := HFC.out _ hSw
                  go_simp
                  try simp only [hne]
                  try rfl
                try simp only [Act.put, List.setIfInBounds_toArray, List.set_cons_zero, List.set_cons_succ]
                refine wpAnyH_done (by kernel_rfl) ?_ _
                go_upto_region 21 with fail
                have hicI : (i : Int) ≤ (c6 : Int) := by omega
                have hic : i ≤ c6 := by omega
                have hi2 : (0 : Int) ≤ (i : Int) + 1 := by omega
                have hi3 : (i : Int) + 1 ≤ (S.length : Int) := by omega
                have hi4 : (i : Int) + 1 ≤ (c6 : Int) := by omega
                have hwr : IntKind.i64.wrap ((i : Int) + 1) = (i : Int) + 1 := by rw [IntKind.wrap_i64] <;> omega
                have htn : ((i : Int) + 1).toNat = i + 1 := by omega
                have hM3 := hM2.more hS2
                refine wp_region_held_drew (S := fun Y => Below w.heap.size w Y) hfo (hM3.below.trans ((show Below wz3.heap.size wz3 wz3.drew from (Below.refl _ _).drew).mono hM3.below.size)) (fun hS3 => ?_)
                replace hM3 := hM3.more (show Below wz3.heap.size wz3 wz3.drew from (Below.refl _ _).drew)
                generalize wz3.drew = Y0 at hS3 hM3 ⊢
                refine' wpAnyH_take (i := 0) (oi := ⟨some 134, _, _, _, _, _⟩) (v := _) rfl (by kernel_rfl) (by kernel_rfl) (by kernel_rfl) (fun _ _ _ h => h) (Or.inl ⟨by rfl, ?y0f⟩) hS3 ?r0f
                case y0f =>
                  intro w' hSw
                  go_simp
                  try rfl
                try simp only [Act.put, List.setIfInBounds_toArray, List.set_cons_zero, List.set_cons_succ]
                refine' wpAnyH_take (i := 1) (oi := ⟨some 135, _, _, _, _, _⟩) (v := _) rfl (by kernel_rfl) (by kernel_rfl) (by kernel_rfl) (fun _ _ _ h => h) (Or.inl ⟨by rfl, ?y1f⟩) hS3 ?r1f
                case y1f =>
                  intro w' hSw
                  go_simp
                  try rfl
                try simp only [Act.put, List.setIfInBounds_toArray, List.set_cons_zero, List.set_cons_succ]
                refine' wpAnyH_take (i := 2) (oi := ⟨some 136, _, _, _, _, _⟩) (v := _) rfl (by kernel_rfl) (by kernel_rfl) (by kernel_rfl) (fun _ _ _ h => h) (Or.inl ⟨by rfl, ?y2f⟩) hS3 ?r2f
                case y2f =>
                  intro w' hSw
                  go_simp
                  try rfl
                try simp only [Act.put, List.setIfInBounds_toArray, List.set_cons_zero, List.set_cons_succ]
                refine' wpAnyH_take (i := 4) (oi := ⟨some 138, _, _, _, _, _⟩) (v := _) rfl (by kernel_rfl) (by kernel_rfl) (by kernel_rfl) (fun _ _ _ h => h) (Or.inl ⟨by rfl, ?y4f⟩) hS3 ?r4f
                case y4f =>
                  intro w' hSw
                  go_simp
                  try rfl
                try simp only [Act.put, List.setIfInBounds_toArray, List.set_cons_zero, List.set_cons_succ]
                refine' wpAnyH_take (i := 5) (oi := ⟨some 139, _, _, _, _, _⟩) (v := _) rfl (by kernel_rfl) (by kernel_rfl) (by kernel_rfl) (fun _ _ _ h => h) (Or.inl ⟨by rfl, ?y5f⟩) hS3 ?r5f
                case y5f =>
                  intro w' hSw
                  go_simp
                  try rfl
                try simp only [Act.put, List.setIfInBounds_toArray, List.set_cons_zero, List.set_cons_succ]
                refine' wpAnyH_take (i := 6) (oi := ⟨some 140, _, _, _, _, _⟩) (v := (.int .i64 ((i : Int) + 1))) rfl (by kernel_rfl) (by kernel_rfl) (by kernel_rfl) (fun _ _ _ h => h) (Or.inl ⟨by rfl, ?y6f⟩) hS3 ?r6f
                case y6f =>
                  intro w' hSw
                  go_simp
                  try simp only [hwr]
                  try simp [htn, hi2, hi3]
                  try rfl
                try simp only [Act.put, List.setIfInBounds_toArray, List.set_cons_zero, List.set_cons_succ]
                refine' wpAnyH_take (i := 7) (oi := ⟨some 141, _, _, _, _, _⟩) (v := (.slice (if c6 = i + 1 then some ⟨bs, os, none⟩ else some ⟨bs, os + (i + 1) * 3, none⟩) (S.length - (i + 1)) (c6 - (i + 1)))) rfl (by kernel_rfl) (by kernel_rfl) (by kernel_rfl) (fun _ _ _ h => h) (Or.inl ⟨by rfl, ?y7f⟩) hS3 ?r7f
                case y7f =>
                  intro w' hSw
                  go_simp
                  try simp only [hwr]
                  try simp [htn, hi2, hi3]
                  try rfl
                try simp only [Act.put, List.setIfInBounds_toArray, List.set_cons_zero, List.set_cons_succ]
                refine held_one (i := 3) (by kernel_rfl) rfl (fun Kc hK => ?_)
                refine held_wanted' rfl (by rfl) ?_
                refine heldOp_append_k (k := kFl) (.const (.slice none 0 0)) (.tmp 136) 31 rfl w.heap.size ifl (by kernel_rfl) hif1 hif2 hif3 hif4 (.slice none 0 0) [] rfl OwnK.nil _ ((S.map shp).take i) rfl (hM3.own.slk.pre i (by omega)) (by simp [maxLen]; omega) (by simp [kFl]; omega) hM3.below.size ?_
                intro v5 Y1 ho5 hg5 _
                have hb5 : Below Y0.heap.size Y0 Y1 := Keep.below (S := fun _ => False) (Below.refl _ _) (Keep.of_grown hg5 (fun k e => by cases e)) (Nat.le_refl _) (fun _ h => h.elim)
                have hM4 := hM3.more hb5
                obtain ⟨A7, c7, rfl⟩ := ho5.shape
                have hM5 := hM4.row (s' := (A7, _, c7)) (S' := S.take i) (grown_refl _ _) (by rw [List.map_take]; exact ho5) (fun f hf => hM4.by_ f (List.mem_of_mem_take hf))
                refine hK.out _ _ hM4.below (fun _ => ?_)
                clear hK Kc
                try simp only [Act.put, List.setIfInBounds_toArray, List.set_cons_zero, List.set_cons_succ]
                refine held_one (i := 8) (by kernel_rfl) rfl (fun Kc hK => ?_)
                refine held_wanted' rfl (by rfl) ?_
                refine heldOp_append_k (k := kFl) (.tmp 137) (.tmp 141) 31 rfl w.heap.size ifl (by kernel_rfl) hif1 hif2 hif3 hif4 _ ((S.map shp).take i) rfl ho5 _ ((S.map shp).drop (i + 1)) rfl (hM4.own.slk.suf (i + 1) (show i + 1 ≤ S.length by omega) _ (fun (h : i + 1 < S.length) => if_neg (show ¬ c6 = i + 1 by omega))) (by simp [maxLen]; omega) (by simp [kFl]; omega) hM4.below.size ?_
                intro v6 Y2 ho6 hg6 _
                have hl8 : ((S.map shp).take i ++ (S.map shp).drop (i + 1)).length = (S.eraseIdx i).length := by rw [← List.eraseIdx_eq_take_drop_succ, List.length_eraseIdx_of_lt (by simpa using hi), List.length_eraseIdx_of_lt hi, List.length_map]
                obtain ⟨A8, c8, e8⟩ := ho6.shape
                rw [hl8] at e8
                subst e8
                have hM6 := hM5.row (s' := (A8, (S.eraseIdx i).length, c8)) (S' := S.eraseIdx i) hg6 (by rw [List.eraseIdx_eq_take_drop_succ, List.map_append, List.map_take, List.map_drop] at *; exact ho6) (fun f hf => hM4.by_ f (List.mem_of_mem_eraseIdx hf))
                refine hK.out _ _ hM6.below (fun _ => ?_)
                clear hK Kc
                try simp only [Act.put, List.setIfInBounds_toArray, List.set_cons_zero, List.set_cons_succ]
                refine' wpAnyH_take (i := 9) (oi := ⟨some 5, _, _, _, _, _⟩) (v := _) rfl (by kernel_rfl) (by kernel_rfl) (by kernel_rfl) (fun _ _ _ h => h) (Or.inl ⟨by rfl, ?y9f⟩) hM6.below ?r9f
                case y9f =>
                  intro w' hSw
                  go_simp
                  try rfl
                try simp only [Act.put, List.setIfInBounds_toArray, List.set_cons_zero, List.set_cons_succ]
                refine wpAnyH_done (by kernel_rfl) ?_ _
                go_wp2
                go_roundw
                case rel => exact ⟨V.eraseIdx 0, S.eraseIdx i, A8, c8, by rw [List.length_eraseIdx_of_lt hi]; go_num, rfl, hM6, hA1, by rw [List.length_eraseIdx_of_lt hi]; omega⟩
                case measure => simp [intOf]; omega
              · have hd2 : (S[i].p.2 != q.2) = true := by simp [e2]
                go_upto_region 17 with fail
                refine wp_region_held_drew (S := fun Y => Below X.heap.size X Y) hfo (hbx.trans ((show Below wr.heap.size wr wr.drew from (Below.refl _ _).drew).mono hbx.size)) (fun hS0 => ?_)
                generalize wr.drew = wy at hS0 ⊢
                refine' wpAnyH_take (i := 0) (oi := ⟨some 90, _, _, _, _, _⟩) (v := _) rfl (by kernel_rfl) (by kernel_rfl) (by kernel_rfl) (fun _ _ _ h => h) (Or.inl ⟨by rfl, ?y0dm⟩) hS0 ?r0dm
                case y0dm =>
                  intro w' hSw
                  obtain ⟨d0, d1, d2⟩ := HE.out _ hSw i hi; obtain ⟨f0, f1, f2⟩ := HFC.out _ hSw
                  go_simp
                  try simp only [hd1, hd2]
                  try rfl
                try simp only [Act.put, List.setIfInBounds_toArray, List.set_cons_zero, List.set_cons_succ]
                refine' wpAnyH_take (i := 1) (oi := ⟨some 91, _, _, _, _, _⟩) (v := _) rfl (by kernel_rfl) (by kernel_rfl) (by kernel_rfl) (fun _ _ _ h => h) (Or.inl ⟨by rfl, ?y1dm⟩) hS0 ?r1dm
                case y1dm =>
                  intro w' hSw
                  obtain ⟨d0, d1, d2⟩ := HE.out _ hSw i hi; obtain ⟨f0, f1, f2⟩ := HFC.out _ hSw
                  go_simp
                  try simp only [hd1, hd2]
                  try rfl
                try simp only [Act.put, List.setIfInBounds_toArray, List.set_cons_zero, List.set_cons_succ]
                refine' wpAnyH_take (i := 2) (oi := ⟨some 92, _, _, _, _, _⟩) (v := _) rfl (by kernel_rfl) (by kernel_rfl) (by kernel_rfl) (fun _ _ _ h => h) (Or.inl ⟨by rfl, ?y2dm⟩) hS0 ?r2dm
                case y2dm =>
                  intro w' hSw
                  obtain ⟨d0, d1, d2⟩ := HE.out _ hSw i hi; obtain ⟨f0, f1, f2⟩ := HFC.out _ hSw
                  go_simp
                  try simp only [hd1, hd2]
                  try rfl
                try simp only [Act.put, List.setIfInBounds_toArray, List.set_cons_zero, List.set_cons_succ]
                refine' wpAnyH_take (i := 3) (oi := ⟨some 93, _, _, _, _, _⟩) (v := _) rfl (by kernel_rfl) (by kernel_rfl) (by kernel_rfl) (fun _ _ _ h => h) (Or.inl ⟨by rfl, ?y3dm⟩) hS0 ?r3dm
                case y3dm =>
                  intro w' hSw
                  obtain ⟨d0, d1, d2⟩ := HE.out _ hSw i hi; obtain ⟨f0, f1, f2⟩ := HFC.out _ hSw
                  go_simp
                  try simp only [hd1, hd2]
                  try rfl
                try simp only [Act.put, List.setIfInBounds_toArray, List.set_cons_zero, List.set_cons_succ]
                refine' wpAnyH_take (i := 4) (oi := ⟨some 94, _, _, _, _, _⟩) (v := _) rfl (by kernel_rfl) (by kernel_rfl) (by kernel_rfl) (fun _ _ _ h => h) (Or.inl ⟨by rfl, ?y4dm⟩) hS0 ?r4dm
                case y4dm =>
                  intro w' hSw
                  obtain ⟨d0, d1, d2⟩ := HE.out _ hSw i hi; obtain ⟨f0, f1, f2⟩ := HFC.out _ hSw
                  go_simp
                  try simp only [hd1, hd2]
                  try rfl
                try simp only [Act.put, List.setIfInBounds_toArray, List.set_cons_zero, List.set_cons_succ]
                refine' wpAnyH_take (i := 5) (oi := ⟨some 95, _, _, _, _, _⟩) (v := _) rfl (by kernel_rfl) (by kernel_rfl) (by kernel_rfl) (fun _ _ _ h => h) (Or.inl ⟨by rfl, ?y5dm⟩) hS0 ?r5dm
                case y5dm =>
                  intro w' hSw
                  obtain ⟨d0, d1, d2⟩ := HE.out _ hSw i hi; obtain ⟨f0, f1, f2⟩ := HFC.out _ hSw
                  go_simp
                  try simp only [hd1, hd2]
                  try rfl
                try simp only [Act.put, List.setIfInBounds_toArray, List.set_cons_zero, List.set_cons_succ]
                refine' wpAnyH_take (i := 6) (oi := ⟨some 96, _, _, _, _, _⟩) (v := _) rfl (by kernel_rfl) (by kernel_rfl) (by kernel_rfl) (fun _ _ _ h => h) (Or.inl ⟨by rfl, ?y6dm⟩) hS0 ?r6dm
                case y6dm =>
                  intro w' hSw
                  obtain ⟨d0, d1, d2⟩ := HE.out _ hSw i hi; obtain ⟨f0, f1, f2⟩ := HFC.out _ hSw
                  go_simp
                  try simp only [hd1, hd2]
                  try rfl
                try simp only [Act.put, List.setIfInBounds_toArray, List.set_cons_zero, List.set_cons_succ]
                refine' wpAnyH_take (i := 7) (oi := ⟨some 97, _, _, _, _, _⟩) (v := _) rfl (by kernel_rfl) (by kernel_rfl) (by kernel_rfl) (fun _ _ _ h => h) (Or.inl ⟨by rfl, ?y7dm⟩) hS0 ?r7dm
                case y7dm =>
                  intro w' hSw
                  obtain ⟨d0, d1, d2⟩ := HE.out _ hSw i hi; obtain ⟨f0, f1, f2⟩ := HFC.out _ hSw
                  go_simp
                  try simp only [hd1, hd2]
                  try rfl
                try simp only [Act.put, List.setIfInBounds_toArray, List.set_cons_zero, List.set_cons_succ]
                refine' wpAnyH_take (i := 8) (oi := ⟨some 98, _, _, _, _, _⟩) (v := _) rfl (by kernel_rfl) (by kernel_rfl) (by kernel_rfl) (fun _ _ _ h => h) (Or.inl ⟨by rfl, ?y8dm⟩) hS0 ?r8dm
                case y8dm =>
                  intro w' hSw
                  obtain ⟨d0, d1, d2⟩ := HE.out _ hSw i hi; obtain ⟨f0, f1, f2⟩ := HFC.out _ hSw
                  go_simp
                  try simp only [hd1, hd2]
                  try rfl
                try simp only [Act.put, List.setIfInBounds_toArray, List.set_cons_zero, List.set_cons_succ]
                refine' wpAnyH_take (i := 9) (oi := ⟨some 99, _, _, _, _, _⟩) (v := _) rfl (by kernel_rfl) (by kernel_rfl) (by kernel_rfl) (fun _ _ _ h => h) (Or.inl ⟨by rfl, ?y9dm⟩) hS0 ?r9dm
                case y9dm =>
                  intro w' hSw
                  obtain ⟨d0, d1, d2⟩ := HE.out _ hSw i hi; obtain ⟨f0, f1, f2⟩ := HFC.out _ hSw
                  go_simp
                  try simp only [hd1, hd2]
                  try rfl
                try simp only [Act.put, List.setIfInBounds_toArray, List.set_cons_zero, List.set_cons_succ]
                refine' wpAnyH_take (i := 10) (oi := ⟨some 100, _, _, _, _, _⟩) (v := _) rfl (by kernel_rfl) (by kernel_rfl) (by kernel_rfl) (fun _ _ _ h => h) (Or.inl ⟨by rfl, ?y10dm⟩) hS0 ?r10dm
                case y10dm =>
                  intro w' hSw
                  obtain ⟨d0, d1, d2⟩ := HE.out _ hSw i hi; obtain ⟨f0, f1, f2⟩ := HFC.out _ hSw
                  go_simp
                  try simp only [hd1, hd2]
                  try rfl
                try simp only [Act.put, List.setIfInBounds_toArray, List.set_cons_zero, List.set_cons_succ]
                refine' wpAnyH_take (i := 11) (oi := ⟨some 101, _, _, _, _, _⟩) (v := _) rfl (by kernel_rfl) (by kernel_rfl) (by kernel_rfl) (fun _ _ _ h => h) (Or.inl ⟨by rfl, ?y11dm⟩) hS0 ?r11dm
                case y11dm =>
                  intro w' hSw
                  obtain ⟨d0, d1, d2⟩ := HE.out _ hSw i hi; obtain ⟨f0, f1, f2⟩ := HFC.out _ hSw
                  go_simp
                  try simp only [hd1, hd2]
                  try rfl
                try simp only [Act.put, List.setIfInBounds_toArray, List.set_cons_zero, List.set_cons_succ]
                refine' wpAnyH_take (i := 12) (oi := ⟨some 102, _, _, _, _, _⟩) (v := (.bool false)) rfl (by kernel_rfl) (by kernel_rfl) (by kernel_rfl) (fun _ _ _ h => h) (Or.inl ⟨by rfl, ?y12dm⟩) hS0 ?r12dm
                case y12dm =>
                  intro w' hSw
                  obtain ⟨d0, d1, d2⟩ := HE.out _ hSw i hi; obtain ⟨f0, f1, f2⟩ := HFC.out _ hSw
                  go_simp
                  try simp only [hd1, hd2]
                  try rfl
                try simp only [Act.put, List.setIfInBounds_toArray, List.set_cons_zero, List.set_cons_succ]
                refine' wpAnyH_take (i := 13) (oi := ⟨some 103, _, _, _, _, _⟩) (v := (.bool false)) rfl (by kernel_rfl) (by kernel_rfl) (by kernel_rfl) (fun _ _ _ h => h) (Or.inl ⟨by rfl, ?y13dm⟩) hS0 ?r13dm
                case y13dm =>
                  intro w' hSw
                  obtain ⟨d0, d1, d2⟩ := HE.out _ hSw i hi; obtain ⟨f0, f1, f2⟩ := HFC.out _ hSw
                  go_simp
                  try simp only [hd1, hd2]
                  try rfl
                try simp only [Act.put, List.setIfInBounds_toArray, List.set_cons_zero, List.set_cons_succ]
                refine' wpAnyH_take (i := 14) (oi := ⟨some 104, _, _, _, _, _⟩) (v := _) rfl (by kernel_rfl) (by kernel_rfl) (by kernel_rfl) (fun _ _ _ h => h) (Or.inl ⟨by rfl, ?y14dm⟩) hS0 ?r14dm
                case y14dm =>
                  intro w' hSw
                  obtain ⟨d0, d1, d2⟩ := HE.out _ hSw i hi; obtain ⟨f0, f1, f2⟩ := HFC.out _ hSw
                  go_simp
                  try simp only [hd1, hd2]
                  try rfl
                try simp only [Act.put, List.setIfInBounds_toArray, List.set_cons_zero, List.set_cons_succ]
                refine' wpAnyH_take (i := 15) (oi := ⟨some 105, _, _, _, _, _⟩) (v := _) rfl (by kernel_rfl) (by kernel_rfl) (by kernel_rfl) (fun _ _ _ h => h) (Or.inl ⟨by rfl, ?y15dm⟩) hS0 ?r15dm
                case y15dm =>
                  intro w' hSw
                  obtain ⟨d0, d1, d2⟩ := HE.out _ hSw i hi; obtain ⟨f0, f1, f2⟩ := HFC.out _ hSw
                  go_simp
                  try simp only [hd1, hd2]
                  try rfl
                try simp only [Act.put, List.setIfInBounds_toArray, List.set_cons_zero, List.set_cons_succ]
                refine' wpAnyH_take (i := 16) (oi := ⟨some 106, _, _, _, _, _⟩) (v := _) rfl (by kernel_rfl) (by kernel_rfl) (by kernel_rfl) (fun _ _ _ h => h) (Or.inl ⟨by rfl, ?y16dm⟩) hS0 ?r16dm
                case y16dm =>
                  intro w' hSw
                  obtain ⟨d0, d1, d2⟩ := HE.out _ hSw i hi; obtain ⟨f0, f1, f2⟩ := HFC.out _ hSw
                  go_simp
                  try simp only [hd1, hd2]
                  try rfl
                try simp only [Act.put, List.setIfInBounds_toArray, List.set_cons_zero, List.set_cons_succ]
                refine' wpAnyH_take (i := 17) (oi := ⟨some 107, _, _, _, _, _⟩) (v := _) rfl (by kernel_rfl) (by kernel_rfl) (by kernel_rfl) (fun _ _ _ h => h) (Or.inl ⟨by rfl, ?y17dm⟩) hS0 ?r17dm
                case y17dm =>
                  intro w' hSw
                  obtain ⟨d0, d1, d2⟩ := HE.out _ hSw i hi; obtain ⟨f0, f1, f2⟩ := HFC.out _ hSw
                  go_simp
                  try simp only [hd1, hd2]
                  try rfl
                try simp only [Act.put, List.setIfInBounds_toArray, List.set_cons_zero, List.set_cons_succ]
                refine' wpAnyH_take (i := 18) (oi := ⟨some 108, _, _, _, _, _⟩) (v := _) rfl (by kernel_rfl) (by kernel_rfl) (by kernel_rfl) (fun _ _ _ h => h) (Or.inl ⟨by rfl, ?y18dm⟩) hS0 ?r18dm
                case y18dm =>
                  intro w' hSw
                  obtain ⟨d0, d1, d2⟩ := HE.out _ hSw i hi; obtain ⟨f0, f1, f2⟩ := HFC.out _ hSw
                  go_simp
                  try simp only [hd1, hd2]
                  try rfl
                try simp only [Act.put, List.setIfInBounds_toArray, List.set_cons_zero, List.set_cons_succ]
                refine' wpAnyH_take (i := 19) (oi := ⟨some 109, _, _, _, _, _⟩) (v := _) rfl (by kernel_rfl) (by kernel_rfl) (by kernel_rfl) (fun _ _ _ h => h) (Or.inl ⟨by rfl, ?y19dm⟩) hS0 ?r19dm
                case y19dm =>
                  intro w' hSw
                  obtain ⟨d0, d1, d2⟩ := HE.out _ hSw i hi; obtain ⟨f0, f1, f2⟩ := HFC.out _ hSw
                  go_simp
                  try simp only [hd1, hd2]
                  try rfl
                try simp only [Act.put, List.setIfInBounds_toArray, List.set_cons_zero, List.set_cons_succ]
                refine' wpAnyH_take (i := 20) (oi := ⟨some 110, _, _, _, _, _⟩) (v := _) rfl (by kernel_rfl) (by kernel_rfl) (by kernel_rfl) (fun _ _ _ h => h) (Or.inl ⟨by rfl, ?y20dm⟩) hS0 ?r20dm
                case y20dm =>
                  intro w' hSw
                  obtain ⟨d0, d1, d2⟩ := HE.out _ hSw i hi; obtain ⟨f0, f1, f2⟩ := HFC.out _ hSw
                  go_simp
                  try simp only [hd1, hd2]
                  try rfl
                try simp only [Act.put, List.setIfInBounds_toArray, List.set_cons_zero, List.set_cons_succ]
                refine' wpAnyH_take (i := 21) (oi := ⟨some 111, _, _, _, _, _⟩) (v := (.bool true)) rfl (by kernel_rfl) (by kernel_rfl) (by kernel_rfl) (fun _ _ _ h => h) (Or.inl ⟨by rfl, ?y21dm⟩) hS0 ?r21dm
                case y21dm =>
                  intro w' hSw
                  obtain ⟨d0, d1, d2⟩ := HE.out _ hSw i hi; obtain ⟨f0, f1, f2⟩ := HFC.out _ hSw
                  go_simp
                  try simp only [hd1, hd2]
                  try rfl
                try simp only [Act.put, List.setIfInBounds_toArray, List.set_cons_zero, List.set_cons_succ]
                refine' wpAnyH_take (i := 22) (oi := ⟨some 112, _, _, _, _, _⟩) (v := (.bool true)) rfl (by kernel_rfl) (by kernel_rfl) (by kernel_rfl) (fun _ _ _ h => h) (Or.inl ⟨by rfl, ?y22dm⟩) hS0 ?r22dm
                case y22dm =>
                  intro w' hSw
                  obtain ⟨d0, d1, d2⟩ := HE.out _ hSw i hi; obtain ⟨f0, f1, f2⟩ := HFC.out _ hSw
                  go_simp
                  try simp only [hd1, hd2]
                  try rfl
                try simp only [Act.put, List.setIfInBounds_toArray, List.set_cons_zero, List.set_cons_succ]
                refine' wpAnyH_take (i := 23) (oi := ⟨some 113, _, _, _, _, _⟩) (v := (.bool true)) rfl (by kernel_rfl) (by kernel_rfl) (by kernel_rfl) (fun _ _ _ h => h) (Or.inl ⟨by rfl, ?y23dm⟩) hS0 ?r23dm
                case y23dm =>
                  intro w' hSw
                  obtain ⟨d0, d1, d2⟩ := HE.out _ hSw i hi; obtain ⟨f0, f1, f2⟩ := HFC.out _ hSw
                  go_simp
                  try simp only [hd1, hd2]
                  try rfl
                try simp only [Act.put, List.setIfInBounds_toArray, List.set_cons_zero, List.set_cons_succ]
                refine wpAnyH_done (by kernel_rfl) ?_ _
                go_wp2
                go_roundw
                case rel => exact ⟨i + 1, by omega, by go_num, hS0, Lib.hid fun j h hji => by rcases Nat.lt_or_ge j i with h1 | h1; exact hj.out j h h1; obtain rfl : j = i := (by omega); exact fun e => e2 (congrArg Prod.snd e)⟩
                case measure => simp [intOf]; omega
            · have hd1 : (S[i].p.1 != q.1) = true := by simp [e1]
              have hd2 : True := trivial
              go_upto_region 17 with fail
              refine wp_region_held_drew (S := fun Y => Below X.heap.size X Y) hfo (hbx.trans ((show Below wr.heap.size wr wr.drew from (Below.refl _ _).drew).mono hbx.size)) (fun hS0 => ?_)
              generalize wr.drew = wy at hS0 ⊢
              refine' wpAnyH_take (i := 0) (oi := ⟨some 90, _, _, _, _, _⟩) (v := _) rfl (by kernel_rfl) (by kernel_rfl) (by kernel_rfl) (fun _ _ _ h => h) (Or.inl ⟨by rfl, ?y0dn⟩) hS0 ?r0dn
              case y0dn =>
                intro w' hSw
                obtain ⟨d0, d1, d2⟩ := HE.out _ hSw i hi; obtain ⟨f0, f1, f2⟩ := HFC.out _ hSw
                go_simp
                try simp only [hd1, hd2]
                try rfl
              try simp only [Act.put, List.setIfInBounds_toArray, List.set_cons_zero, List.set_cons_succ]
              refine' wpAnyH_take (i := 1) (oi := ⟨some 91, _, _, _, _, _⟩) (v := _) rfl (by kernel_rfl) (by kernel_rfl) (by kernel_rfl) (fun _ _ _ h => h) (Or.inl ⟨by rfl, ?y1dn⟩) hS0 ?r1dn
              case y1dn =>
                intro w' hSw
                obtain ⟨d0, d1, d2⟩ := HE.out _ hSw i hi; obtain ⟨f0, f1, f2⟩ := HFC.out _ hSw
                go_simp
                try simp only [hd1, hd2]
                try rfl
              try simp only [Act.put, List.setIfInBounds_toArray, List.set_cons_zero, List.set_cons_succ]
              refine' wpAnyH_take (i := 2) (oi := ⟨some 92, _, _, _, _, _⟩) (v := _) rfl (by kernel_rfl) (by kernel_rfl) (by kernel_rfl) (fun _ _ _ h => h) (Or.inl ⟨by rfl, ?y2dn⟩) hS0 ?r2dn
              case y2dn =>
                intro w' hSw
                obtain ⟨d0, d1, d2⟩ := HE.out _ hSw i hi; obtain ⟨f0, f1, f2⟩ := HFC.out _ hSw
                go_simp
                try simp only [hd1, hd2]
                try rfl
              try simp only [Act.put, List.setIfInBounds_toArray, List.set_cons_zero, List.set_cons_succ]
              refine' wpAnyH_take (i := 3) (oi := ⟨some 93, _, _, _, _, _⟩) (v := _) rfl (by kernel_rfl) (by kernel_rfl) (by kernel_rfl) (fun _ _ _ h => h) (Or.inl ⟨by rfl, ?y3dn⟩) hS0 ?r3dn
              case y3dn =>
                intro w' hSw
                obtain ⟨d0, d1, d2⟩ := HE.out _ hSw i hi; obtain ⟨f0, f1, f2⟩ := HFC.out _ hSw
                go_simp
                try simp only [hd1, hd2]
                try rfl
              try simp only [Act.put, List.setIfInBounds_toArray, List.set_cons_zero, List.set_cons_succ]
              refine' wpAnyH_take (i := 4) (oi := ⟨some 94, _, _, _, _, _⟩) (v := _) rfl (by kernel_rfl) (by kernel_rfl) (by kernel_rfl) (fun _ _ _ h => h) (Or.inl ⟨by rfl, ?y4dn⟩) hS0 ?r4dn
              case y4dn =>
                intro w' hSw
                obtain ⟨d0, d1, d2⟩ := HE.out _ hSw i hi; obtain ⟨f0, f1, f2⟩ := HFC.out _ hSw
                go_simp
                try simp only [hd1, hd2]
                try rfl
              try simp only [Act.put, List.setIfInBounds_toArray, List.set_cons_zero, List.set_cons_succ]
              refine' wpAnyH_take (i := 5) (oi := ⟨some 95, _, _, _, _, _⟩) (v := _) rfl (by kernel_rfl) (by kernel_rfl) (by kernel_rfl) (fun _ _ _ h => h) (Or.inl ⟨by rfl, ?y5dn⟩) hS0 ?r5dn
              case y5dn =>
                intro w' hSw
                obtain ⟨d0, d1, d2⟩ := HE.out _ hSw i hi; obtain ⟨f0, f1, f2⟩ := HFC.out _ hSw
                go_simp
                try simp only [hd1, hd2]
                try rfl
              try simp only [Act.put, List.setIfInBounds_toArray, List.set_cons_zero, List.set_cons_succ]
              refine' wpAnyH_take (i := 6) (oi := ⟨some 96, _, _, _, _, _⟩) (v := _) rfl (by kernel_rfl) (by kernel_rfl) (by kernel_rfl) (fun _ _ _ h => h) (Or.inl ⟨by rfl, ?y6dn⟩) hS0 ?r6dn
              case y6dn =>
                intro w' hSw
                obtain ⟨d0, d1, d2⟩ := HE.out _ hSw i hi; obtain ⟨f0, f1, f2⟩ := HFC.out _ hSw
                go_simp
                try simp only [hd1, hd2]
                try rfl
              try simp only [Act.put, List.setIfInBounds_toArray, List.set_cons_zero, List.set_cons_succ]
              refine' wpAnyH_take (i := 7) (oi := ⟨some 97, _, _, _, _, _⟩) (v := _) rfl (by kernel_rfl) (by kernel_rfl) (by kernel_rfl) (fun _ _ _ h => h) (Or.inl ⟨by rfl, ?y7dn⟩) hS0 ?r7dn
              case y7dn =>
                intro w' hSw
                obtain ⟨d0, d1, d2⟩ := HE.out _ hSw i hi; obtain ⟨f0, f1, f2⟩ := HFC.out _ hSw
                go_simp
                try simp only [hd1, hd2]
                try rfl
              try simp only [Act.put, List.setIfInBounds_toArray, List.set_cons_zero, List.set_cons_succ]
              refine' wpAnyH_take (i := 8) (oi := ⟨some 98, _, _, _, _, _⟩) (v := _) rfl (by kernel_rfl) (by kernel_rfl) (by kernel_rfl) (fun _ _ _ h => h) (Or.inl ⟨by rfl, ?y8dn⟩) hS0 ?r8dn
              case y8dn =>
                intro w' hSw
                obtain ⟨d0, d1, d2⟩ := HE.out _ hSw i hi; obtain ⟨f0, f1, f2⟩ := HFC.out _ hSw
                go_simp
                try simp only [hd1, hd2]
                try rfl
              try simp only [Act.put, List.setIfInBounds_toArray, List.set_cons_zero, List.set_cons_succ]
              refine' wpAnyH_take (i := 9) (oi := ⟨some 99, _, _, _, _, _⟩) (v := _) rfl (by kernel_rfl) (by kernel_rfl) (by kernel_rfl) (fun _ _ _ h => h) (Or.inl ⟨by rfl, ?y9dn⟩) hS0 ?r9dn
              case y9dn =>
                intro w' hSw
                obtain ⟨d0, d1, d2⟩ := HE.out _ hSw i hi; obtain ⟨f0, f1, f2⟩ := HFC.out _ hSw
                go_simp
                try simp only [hd1, hd2]
                try rfl
              try simp only [Act.put, List.setIfInBounds_toArray, List.set_cons_zero, List.set_cons_succ]
              refine' wpAnyH_take (i := 10) (oi := ⟨some 100, _, _, _, _, _⟩) (v := _) rfl (by kernel_rfl) (by kernel_rfl) (by kernel_rfl) (fun _ _ _ h => h) (Or.inl ⟨by rfl, ?y10dn⟩) hS0 ?r10dn
              case y10dn =>
                intro w' hSw
                obtain ⟨d0, d1, d2⟩ := HE.out _ hSw i hi; obtain ⟨f0, f1, f2⟩ := HFC.out _ hSw
                go_simp
                try simp only [hd1, hd2]
                try rfl
              try simp only [Act.put, List.setIfInBounds_toArray, List.set_cons_zero, List.set_cons_succ]
              refine' wpAnyH_take (i := 11) (oi := ⟨some 101, _, _, _, _, _⟩) (v := _) rfl (by kernel_rfl) (by kernel_rfl) (by kernel_rfl) (fun _ _ _ h => h) (Or.inl ⟨by rfl, ?y11dn⟩) hS0 ?r11dn
              case y11dn =>
                intro w' hSw
                obtain ⟨d0, d1, d2⟩ := HE.out _ hSw i hi; obtain ⟨f0, f1, f2⟩ := HFC.out _ hSw
                go_simp
                try simp only [hd1, hd2]
                try rfl
              try simp only [Act.put, List.setIfInBounds_toArray, List.set_cons_zero, List.set_cons_succ]
              refine' wpAnyH_take (i := 12) (oi := ⟨some 102, _, _, _, _, _⟩) (v := (.bool true)) rfl (by kernel_rfl) (by kernel_rfl) (by kernel_rfl) (fun _ _ _ h => h) (Or.inl ⟨by rfl, ?y12dn⟩) hS0 ?r12dn
              case y12dn =>
                intro w' hSw
                obtain ⟨d0, d1, d2⟩ := HE.out _ hSw i hi; obtain ⟨f0, f1, f2⟩ := HFC.out _ hSw
                go_simp
                try simp only [hd1, hd2]
                try rfl
              try simp only [Act.put, List.setIfInBounds_toArray, List.set_cons_zero, List.set_cons_succ]
              refine' wpAnyH_take (i := 13) (oi := ⟨some 103, _, _, _, _, _⟩) (v := (.bool true)) rfl (by kernel_rfl) (by kernel_rfl) (by kernel_rfl) (fun _ _ _ h => h) (Or.inl ⟨by rfl, ?y13dn⟩) hS0 ?r13dn
              case y13dn =>
                intro w' hSw
                obtain ⟨d0, d1, d2⟩ := HE.out _ hSw i hi; obtain ⟨f0, f1, f2⟩ := HFC.out _ hSw
                go_simp
                try simp only [hd1, hd2]
                try rfl
              try simp only [Act.put, List.setIfInBounds_toArray, List.set_cons_zero, List.set_cons_succ]
              refine' wpAnyH_take (i := 14) (oi := ⟨some 104, _, _, _, _, _⟩) (v := undef) rfl (by kernel_rfl) (by kernel_rfl) (by kernel_rfl) (fun _ _ _ h => h) (Or.inr ⟨by rfl, rfl⟩) hS0 ?r14dn
              try simp only [Act.put, List.setIfInBounds_toArray, List.set_cons_zero, List.set_cons_succ]
              refine' wpAnyH_take (i := 15) (oi := ⟨some 105, _, _, _, _, _⟩) (v := undef) rfl (by kernel_rfl) (by kernel_rfl) (by kernel_rfl) (fun _ _ _ h => h) (Or.inr ⟨by rfl, rfl⟩) hS0 ?r15dn
              try simp only [Act.put, List.setIfInBounds_toArray, List.set_cons_zero, List.set_cons_succ]
              refine' wpAnyH_take (i := 16) (oi := ⟨some 106, _, _, _, _, _⟩) (v := undef) rfl (by kernel_rfl) (by kernel_rfl) (by kernel_rfl) (fun _ _ _ h => h) (Or.inr ⟨by rfl, rfl⟩) hS0 ?r16dn
              try simp only [Act.put, List.setIfInBounds_toArray, List.set_cons_zero, List.set_cons_succ]
              refine' wpAnyH_take (i := 17) (oi := ⟨some 107, _, _, _, _, _⟩) (v := undef) rfl (by kernel_rfl) (by kernel_rfl) (by kernel_rfl) (fun _ _ _ h => h) (Or.inr ⟨by rfl, rfl⟩) hS0 ?r17dn
              try simp only [Act.put, List.setIfInBounds_toArray, List.set_cons_zero, List.set_cons_succ]
              refine' wpAnyH_take (i := 18) (oi := ⟨some 108, _, _, _, _, _⟩) (v := undef) rfl (by kernel_rfl) (by kernel_rfl) (by kernel_rfl) (fun _ _ _ h => h) (Or.inr ⟨by rfl, rfl⟩) hS0 ?r18dn
              try simp only [Act.put, List.setIfInBounds_toArray, List.set_cons_zero, List.set_cons_succ]
              refine' wpAnyH_take (i := 19) (oi := ⟨some 109, _, _, _, _, _⟩) (v := undef) rfl (by kernel_rfl) (by kernel_rfl) (by kernel_rfl) (fun _ _ _ h => h) (Or.inr ⟨by rfl, rfl⟩) hS0 ?r19dn
              try simp only [Act.put, List.setIfInBounds_toArray, List.set_cons_zero, List.set_cons_succ]
              refine' wpAnyH_take (i := 20) (oi := ⟨some 110, _, _, _, _, _⟩) (v := undef) rfl (by kernel_rfl) (by kernel_rfl) (by kernel_rfl) (fun _ _ _ h => h) (Or.inr ⟨by rfl, rfl⟩) hS0 ?r20dn
              try simp only [Act.put, List.setIfInBounds_toArray, List.set_cons_zero, List.set_cons_succ]
              refine' wpAnyH_take (i := 21) (oi := ⟨some 111, _, _, _, _, _⟩) (v := undef) rfl (by kernel_rfl) (by kernel_rfl) (by kernel_rfl) (fun _ _ _ h => h) (Or.inr ⟨by rfl, rfl⟩) hS0 ?r21dn
              try simp only [Act.put, List.setIfInBounds_toArray, List.set_cons_zero, List.set_cons_succ]
              refine' wpAnyH_take (i := 22) (oi := ⟨some 112, _, _, _, _, _⟩) (v := (.bool true)) rfl (by kernel_rfl) (by kernel_rfl) (by kernel_rfl) (fun _ _ _ h => h) (Or.inl ⟨by rfl, ?y22dn⟩) hS0 ?r22dn
              case y22dn =>
                intro w' hSw
                obtain ⟨d0, d1, d2⟩ := HE.out _ hSw i hi; obtain ⟨f0, f1, f2⟩ := HFC.out _ hSw
                go_simp
                try simp only [hd1, hd2]
                try rfl
              try simp only [Act.put, List.setIfInBounds_toArray, List.set_cons_zero, List.set_cons_succ]
              refine' wpAnyH_take (i := 23) (oi := ⟨some 113, _, _, _, _, _⟩) (v := (.bool true)) rfl (by kernel_rfl) (by kernel_rfl) (by kernel_rfl) (fun _ _ _ h => h) (Or.inl ⟨by rfl, ?y23dn⟩) hS0 ?r23dn
              case y23dn =>
                intro w' hSw
                obtain ⟨d0, d1, d2⟩ := HE.out _ hSw i hi; obtain ⟨f0, f1, f2⟩ := HFC.out _ hSw
                go_simp
                try simp only [hd1, hd2]
                try rfl
              try simp only [Act.put, List.setIfInBounds_toArray, List.set_cons_zero, List.set_cons_succ]
              refine wpAnyH_done (by kernel_rfl) ?_ _
              go_wp2
              go_roundw
              case rel => exact ⟨i + 1, by omega, by go_num, hS0, Lib.hid fun j h hji => by rcases Nat.lt_or_ge j i with h1 | h1; exact hj.out j h h1; obtain rfl : j = i := (by omega); exact fun e => e1 (congrArg Prod.fst e)⟩
              case measure => simp [intOf]; omega
        · have hS0 : S.length = 0 := by omega
          have hV0 : V.length = 0 := by rw [hA.len]; exact hS0
          have HTN := Lib.hid (show Calls Try.prog 19 #[.pointer (some ⟨p, 0, none⟩), .int .i64 0] wr fun e W' => e = .returned (.tuple #[.agg #[.int .i64 0, .int .i64 0, .slice none 0 0], .int .i64 6]) ∧ Below wr.heap.size wr W' from mm_take_none hM 0 (by omega) (by decide) wr (Below.refl _ _))
          have hS0I : ¬ (0 : Int) < (S.length : Int) := by omega
          go_upto_region 23 with (go_at_call 19; refine HTN.out.mono ?_; rintro e B ⟨rfl, hbB⟩)
          have hM2 := hM.more (hbB.alloc hbB.size (.cells #[.int .i64 0, .int .i64 0, .slice none 0 0] 44))
          generalize B.alloc (.cells #[.int .i64 0, .int .i64 0, .slice none 0 0] 44) = X at hM2 ⊢
          have HLN := mm_len hM2 X (Below.refl _ _)
          rw [hV0] at HLN
          clear HTN hM
          go_wp2_with (first | (go_at_call 10; refine (num_any _ _).mono ?_; rintro e w2 ⟨rfl, hwd⟩; obtain rfl := hwd.symm) | (go_at_call 20; refine HLN.mono ?_; rintro e X2 ⟨rfl, hb2⟩; have hM3 := hM2.more hb2) | (go_at_call 11; refine (nknown_any _).mono ?_; rintro e X3 ⟨rfl, hb3⟩))
          go_ret
          exact ⟨rfl, (hM3.more hb3).below⟩
end Go.Proofs.Ytellbmghahgjfaa

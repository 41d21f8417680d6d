/-
  The walks of the document's Next, all of its Add, and of the laws' same.
-/
import Derived.Test.YtoglhpcboonpeaaCtxRefAdd
import Derived.Test.YtoglhpcboonpeaaCtxStill
namespace Go.Proofs.Ytoglhpcboonpeaa
open Go.RowKit
open CtxM
set_option linter.unusedVariables false
set_option linter.unusedSimpArgs false
set_option maxRecDepth 20000

theorem SAdded.same {w w' : World} {g : Nat} {v : Value} {V : List Nat} {X : List Dt} (hc : Sx w g v V X) (h : Grw w w') (hv : ∀ i, v.ownBlock = some i → w.heap.size ≤ i ∨ True) : ∃ v', Sx w' g v' V X ∧ Keep (fun i => i = g) w w' ∧ (v' = v ∨ ∀ i, v'.ownBlock = some i → w.heap.size ≤ i) :=
  ⟨v, hc.below h.below, .of_below h.below, .inl rfl⟩
theorem refAdd_any (g : Nat) (v : Value) (V : List Nat) (X : List Dt) (d : Dt) (w : World) (hc : Sx w g v V X) (hM : May d) (hl : X.length ≤ 10000) :
    Calls Try.prog 14 #[.pointer (some ⟨g, 0, none⟩), .agg #[.int .i64 d.1, .int .u64 (d.2 : Int)]] w fun e w' =>
      e = .returned (.bool (decide (¬ In V X d))) ∧ ∃ v', Sx w' g v' (addF (V, X) d).1 (addF (V, X) d).2 ∧ Keep (fun i => i = g) w w' ∧ Newer w.heap.size v v' := by
  by_cases hI : In V X d
  · refine (refAdd_old g v V X d w hc hI hl).mono ?_
    rintro e w' ⟨rfl, hg⟩
    rw [show addF (V, X) d = (V, X) by unfold addF; rw [if_pos hI]]
    exact ⟨by simp [hI], v, hc.below hg.below, .of_below hg.below, fun i hi => .inl hi⟩
  · refine (refAdd_new g v V X d w hc hM hI hl).mono ?_
    rintro e w' ⟨rfl, v', h1, h2, h3⟩
    exact ⟨by simp [hI], v', h1, h2, fun i hi => .inr (h3 i hi)⟩

theorem lastF_nil (V : List Nat) (r : Int) : lastF V [] r = at_ V r := rfl
theorem lastF_snoc (V : List Nat) (L : List Dt) (d : Dt) (r : Int) : lastF V (L ++ [d]) r = if d.1 = r then d.2 else lastF V L r := by
  unfold lastF
  rw [List.filter_append]
  by_cases h : d.1 = r
  · rw [if_pos h, List.filter_cons_of_pos (by simpa using h), List.filter_nil, List.getLast?_append]; rfl
  · rw [if_neg h, List.filter_cons_of_neg (by simpa using h), List.filter_nil, List.append_nil]
theorem lastF_lt {V : List Nat} {X : List Dt} (h : Fit V X) {i : Nat} (hi : i < X.length) {r : Int} (hr : X[i].1 = r) : lastF V (X.take i) r < X[i].2 := by
  unfold lastF
  cases hg : ((X.take i).filter fun d => decide (d.1 = r)).getLast? with
  | none =>
    have := h.beyond X[i] (List.getElem_mem hi)
    rw [hr] at this
    show at_ V r < _
    omega
  | some d =>
    have hm := List.mem_filter.1 (List.mem_of_getLast? hg)
    have hr2 : d.1 = r := by simpa using hm.2
    obtain ⟨j, hj, e⟩ := List.getElem_of_mem hm.1
    rw [List.length_take] at hj
    rw [List.getElem_take] at e
    have hl := (List.pairwise_iff_getElem.1 h.rise) j i (by omega) hi (by omega)
    rw [e] at hl
    show d.2 < _
    unfold Lt at hl
    omega

set_option maxHeartbeats 1000000 in
theorem refNext_any (g : Nat) (v : Value) (V : List Nat) (X : List Dt) (k : Nat) (w : World) (hc : Sx w g v V X) (hk : k < 16) (hl : X.length ≤ 100000) :
    Calls Try.prog 21 #[.pointer (some ⟨g, 0, none⟩), .int .i64 ((k : Int) + 1)] w fun e w' => e = .returned (.int .u64 (lastF V X ((k : Int) + 1) : Int)) ∧ w' = w := by
  have HC := Lib.hid hc
  have hv := hc.atk k hk
  have hx := hc.extra
  obtain ⟨A, c, rfl, hcc, _⟩ := hc.row
  obtain ⟨m, hm⟩ : ∃ m, m = at_ V ((k : Int) + 1) := ⟨_, rfl⟩
  rw [← hm] at hv
  have HM := Lib.hid hm
  obtain ⟨r, hr⟩ : ∃ r : Int, r = (k : Int) + 1 := ⟨_, rfl⟩
  have HR := Lib.hid hr
  clear hc hm hr
  go_enter Try.func21, Try.ntmps21
  go_wp2
  go_loopw [5, 6] (fun x z wr => ∃ i : Nat, z = .int .i64 (i : Int) ∧ i ≤ X.length ∧ x = .int .u64 (lastF V (X.take i) r : Int) ∧ wr = w) (fun _ z _ => X.length - (intOf z).toNat)
  case atStart => exact ⟨0, rfl, Nat.zero_le _, by rw [HM.out, ← HR.out]; rfl, rfl⟩
  case round =>
    obtain ⟨i, rfl, hi, rfl, rfl⟩ := hrel
    by_cases hlt : i < X.length
    · obtain ⟨x, hxx⟩ : ∃ x, X[i] = x := ⟨_, rfl⟩
      obtain ⟨b, o, rfl, k0, k1⟩ := HC.out.row.at_ i hlt x hxx
      have hst : lastF V (X.take (i + 1)) r = if x.1 = r then x.2 else lastF V (X.take i) r := by
        rw [List.take_succ_eq_append_getElem hlt, hxx, lastF_snoc]
      have hltn : x.1 = r → lastF V (X.take i) r < x.2 := fun h => by rw [← hxx] at h ⊢; exact lastF_lt HC.out.fit hlt h
      obtain ⟨n, hn⟩ : ∃ n, n = lastF V (X.take i) r := ⟨_, rfl⟩
      rw [← hn] at hst hltn ⊢
      have HST := Lib.hid hst
      clear hxx hst hn
      by_cases hxr : x.1 = r
      · have b1 : (x.1 == (k : Int) + 1) = true := by rw [beq_iff_eq, hxr]; exact HR.out
        have b2 : (n : Int) < (x.2 : Int) := by have := hltn hxr; omega
        have HXR := Lib.hid hxr
        clear hxr hltn
        go_wp2
        exact ⟨⟨i + 1, by go_num, by omega, by rw [HST.out, if_pos HXR.out], by first | rfl | trivial⟩, by simp [intOf]; omega⟩
      · have b1 : (x.1 == (k : Int) + 1) = false := by rw [beq_eq_false_iff_ne]; intro e; exact hxr (e.trans HR.out.symm)
        have HXR := Lib.hid hxr
        clear hxr hltn
        go_wp2
        exact ⟨⟨i + 1, by go_num, by omega, by rw [HST.out, if_neg HXR.out], by first | rfl | trivial⟩, by simp [intOf]; omega⟩
    · obtain rfl : i = X.length := by omega
      rw [List.take_length]
      have hll : ¬ (X.length : Int) < (X.length : Int) := by omega
      go_wp2
      go_ret
      exact ⟨ret_int (by rw [HR.out]), rfl⟩

theorem info_arr : (Try.prog.info? 28).map (·.size) = some 16 := by kernel_rfl
set_option maxHeartbeats 4000000 in
theorem same_eq (g h : Nat) (v u : Value) (V : List Nat) (X : List Dt) (w : World) (hc : Cx w g v V X) (ho : Sx w h u V X) (hl : X.length ≤ 100000) :
    Calls Try.prog 15 #[.pointer (some ⟨g, 0, none⟩), .pointer (some ⟨h, 0, none⟩)] w fun e w' => e = .returned (.bool true) ∧ Below w.heap.size w w' := by
  have hfo : Try.prog.follows .mixedOrders = true := by kernel_rfl
  go_enter Try.func15, Try.ntmps15
  go_wp2_with fail
  refine held_begin hfo ?_
  have Cc : Cx w.drew g v V X := Cx.below hc (Below.refl _ _).drew
  have Co : Sx w.drew h u V X := Sx.below ho (Below.refl _ _).drew
  have Hb1 : Below w.heap.size w w.drew := (Below.refl _ _).drew
  clear hc ho
  generalize w.drew = W2 at Cc Co Hb1 ⊢
  have ro := Co.range
  have px := Co.extra
  have hV := Cc.fit.len
  have hve : ∀ w, (Op.equalIn 10000 52 (.agg (uqs V)) (.agg (V.map uq).toArray)).run Try.prog w = .ok true w := fun w => by
    have := vec_eq V V hV hV w
    rw [decide_eq_true rfl] at this
    exact this
  obtain ⟨Au, cu, rfl, _⟩ := Co.row
  refine' wpAnyH_take (i := 0) (oi := ⟨some 5, _, _, _, _, _⟩) (v := _) rfl (by kernel_rfl) (by kernel_rfl) (by kernel_rfl) (fun _ _ _ h => h) (Or.inl ⟨by rfl, ?y0⟩) (Keeps.refl _) ?r0
  case y0 => (intro w' hSw; go_simp; try rfl)
  try simp only [Act.put, List.setIfInBounds_toArray, List.set_cons_zero, List.set_cons_succ]
  refine' wpAnyH_take (i := 1) (oi := ⟨some 6, _, _, _, _, _⟩) (v := _) rfl (by kernel_rfl) (by kernel_rfl) (by kernel_rfl) (fun _ _ _ h => h) (Or.inl ⟨by rfl, ?y1⟩) (Keeps.refl _) ?r1
  case y1 => (intro w' hSw; go_simp; try rfl)
  try simp only [Act.put, List.setIfInBounds_toArray, List.set_cons_zero, List.set_cons_succ]
  refine' wpAnyH_take (i := 2) (oi := ⟨some 7, _, _, _, _, _⟩) (v := _) rfl (by kernel_rfl) (by kernel_rfl) (by kernel_rfl) (fun _ _ _ h => h) (Or.inl ⟨by rfl, ?y2⟩) (Keeps.refl _) ?r2
  case y2 => (intro w' hSw; go_simp; try rfl)
  try simp only [Act.put, List.setIfInBounds_toArray, List.set_cons_zero, List.set_cons_succ]
  refine' wpAnyH_take (i := 3) (oi := ⟨some 8, _, _, _, _, _⟩) (v := _) rfl (by kernel_rfl) (by kernel_rfl) (by kernel_rfl) (fun _ _ _ h => h) (Or.inl ⟨by rfl, ?y3⟩) (Keeps.refl _) ?r3
  case y3 => (intro w' hSw; go_simp; try rfl)
  try simp only [Act.put, List.setIfInBounds_toArray, List.set_cons_zero, List.set_cons_succ]
  refine' wpAnyH_take (i := 5) (oi := ⟨some 10, _, _, _, _, _⟩) (v := _) rfl (by kernel_rfl) (by kernel_rfl) (by kernel_rfl) (fun _ _ _ h => h) (Or.inl ⟨by rfl, ?y5⟩) (Keeps.refl _) ?r5
  case y5 => (intro w' hSw; go_simp; try rfl)
  try simp only [Act.put, List.setIfInBounds_toArray, List.set_cons_zero, List.set_cons_succ]
  refine' wpAnyH_take (i := 6) (oi := ⟨some 11, _, _, _, _, _⟩) (v := _) rfl (by kernel_rfl) (by kernel_rfl) (by kernel_rfl) (fun _ _ _ h => h) (Or.inl ⟨by rfl, ?y6⟩) (Keeps.refl _) ?r6
  case y6 => (intro w' hSw; go_simp; try rfl)
  try simp only [Act.put, List.setIfInBounds_toArray, List.set_cons_zero, List.set_cons_succ]
  refine' wpAnyH_take (i := 7) (oi := ⟨some 12, _, _, _, _, _⟩) (v := _) rfl (by kernel_rfl) (by kernel_rfl) (by kernel_rfl) (fun _ _ _ h => h) (Or.inl ⟨by rfl, ?y7⟩) (Keeps.refl _) ?r7
  case y7 => (intro w' hSw; go_simp; try rfl)
  try simp only [Act.put, List.setIfInBounds_toArray, List.set_cons_zero, List.set_cons_succ]
  refine' wpAnyH_take (i := 8) (oi := ⟨some 13, _, _, _, _, _⟩) (v := _) rfl (by kernel_rfl) (by kernel_rfl) (by kernel_rfl) (fun _ _ _ h => h) (yieldsIf_load_mid (by rfl) 28 (.tmp 12) rfl h 0 rfl (V.map uq) _ (fun w' hSw => Keeps.range ro hSw) Try.underlying28 rfl (by rw [info_arr, List.length_map, hV])) (Keeps.refl _) ?r8
  try simp only [Act.put, List.setIfInBounds_toArray, List.set_cons_zero, List.set_cons_succ]
  refine held_one (i := 4) (by kernel_rfl) rfl (fun K hK => ?_)
  go_simp
  refine (vector_any g v V X W2 Cc).mono ?_
  rintro e W3 ⟨rfl, hb3⟩
  refine hK.out _ _ (Keeps.of_below hb3) (fun _ => ?_)
  clear hK K
  try simp only [Act.put, List.setIfInBounds_toArray, List.set_cons_zero, List.set_cons_succ]
  refine' wpAnyH_take (i := 9) (oi := ⟨some 14, _, _, _, _, _⟩) (v := _) rfl (by kernel_rfl) (by kernel_rfl) (by kernel_rfl) (fun _ _ _ h => h) (Or.inl ⟨by rfl, ?y9⟩) (Keeps.of_below hb3) ?r9
  case y9 => (intro w' hSw; go_simp; try rfl)
  try simp only [Act.put, List.setIfInBounds_toArray, List.set_cons_zero, List.set_cons_succ]
  refine' wpAnyH_take (i := 10) (oi := ⟨some 15, _, _, _, _, _⟩) (v := _) rfl (by kernel_rfl) (by kernel_rfl) (by kernel_rfl) (fun _ _ _ h => h) (Or.inl ⟨by rfl, ?y10⟩) (Keeps.of_below hb3) ?r10
  case y10 => (intro w' hSw; go_simp; try rfl)
  try simp only [Act.put, List.setIfInBounds_toArray, List.set_cons_zero, List.set_cons_succ]
  refine' wpAnyH_take (i := 11) (oi := ⟨some 16, _, _, _, _, _⟩) (v := _) rfl (by kernel_rfl) (by kernel_rfl) (by kernel_rfl) (fun _ _ _ h => h) (Or.inl ⟨by rfl, ?y11⟩) (Keeps.of_below hb3) ?r11
  case y11 => (intro w' hSw; go_simp; try rfl)
  try simp only [Act.put, List.setIfInBounds_toArray, List.set_cons_zero, List.set_cons_succ]
  refine' wpAnyH_take (i := 12) (oi := ⟨some 17, _, _, _, _, _⟩) (v := _) rfl (by kernel_rfl) (by kernel_rfl) (by kernel_rfl) (fun _ _ _ h => h) (Or.inl ⟨by rfl, ?y12⟩) (Keeps.of_below hb3) ?r12
  case y12 => (intro w' hSw; go_simp; try rfl)
  try simp only [Act.put, List.setIfInBounds_toArray, List.set_cons_zero, List.set_cons_succ]
  refine' wpAnyH_take (i := 14) (oi := ⟨some 19, _, _, _, _, _⟩) (v := _) rfl (by kernel_rfl) (by kernel_rfl) (by kernel_rfl) (fun _ _ _ h => h) (Or.inl ⟨by rfl, ?y14⟩) (Keeps.of_below hb3) ?r14
  case y14 => (intro w' hSw; go_simp; try rfl)
  try simp only [Act.put, List.setIfInBounds_toArray, List.set_cons_zero, List.set_cons_succ]
  refine' wpAnyH_take (i := 15) (oi := ⟨some 20, _, _, _, _, _⟩) (v := _) rfl (by kernel_rfl) (by kernel_rfl) (by kernel_rfl) (fun _ _ _ h => h) (Or.inl ⟨by rfl, ?y15⟩) (Keeps.of_below hb3) ?r15
  case y15 => (intro w' hSw; go_simp; try rfl)
  try simp only [Act.put, List.setIfInBounds_toArray, List.set_cons_zero, List.set_cons_succ]
  refine' wpAnyH_take (i := 16) (oi := ⟨some 21, _, _, _, _, _⟩) (v := _) rfl (by kernel_rfl) (by kernel_rfl) (by kernel_rfl) (fun _ _ _ h => h) (Or.inl ⟨by rfl, ?y16⟩) (Keeps.of_below hb3) ?r16
  case y16 => (intro w' hSw; go_simp; try rfl)
  try simp only [Act.put, List.setIfInBounds_toArray, List.set_cons_zero, List.set_cons_succ]
  refine' wpAnyH_take (i := 17) (oi := ⟨some 22, _, _, _, _, _⟩) (v := _) rfl (by kernel_rfl) (by kernel_rfl) (by kernel_rfl) (fun _ _ _ h => h) (Or.inl ⟨by rfl, ?y17⟩) (Keeps.of_below hb3) ?r17
  case y17 => (intro w' hSw; have q0 := hSw _ _ px; go_simp; try rfl)
  try simp only [Act.put, List.setIfInBounds_toArray, List.set_cons_zero, List.set_cons_succ]
  have Cc3 := Cc.below hb3
  have Co3 := Co.below hb3
  refine held_one (i := 13) (by kernel_rfl) rfl (fun K hK => ?_)
  go_simp
  refine (extra_any g v V X W3 Cc3 hl).mono ?_
  rintro e W4 ⟨v4, rfl, ho4, hb4⟩
  have hb34 := hb3.trans (hb4.mono hb3.size)
  refine hK.out _ _ (Keeps.of_below hb34) (fun _ => ?_)
  clear hK K
  try simp only [Act.put, List.setIfInBounds_toArray, List.set_cons_zero, List.set_cons_succ]
  refine held_one (i := 18) (by kernel_rfl) rfl (fun K hK => ?_)
  go_simp
  refine (sameDots_any v4 _ X X W4 ho4.sd (Co3.below hb4).row hl hl).mono ?_
  rintro e W5 ⟨rfl, n5, rfl⟩
  rw [decide_eq_true rfl]
  refine hK.out _ _ (Keeps.of_below (below_drewN hb34 _)) (fun _ => ?_)
  clear hK K
  try simp only [Act.put, List.setIfInBounds_toArray, List.set_cons_zero, List.set_cons_succ]
  refine' wpAnyH_take (i := 19) (oi := ⟨some 24, _, _, _, _, _⟩) (v := _) rfl (by kernel_rfl) (by kernel_rfl) (by kernel_rfl) (fun _ _ _ h => h) (Or.inl ⟨by rfl, ?y19⟩) (Keeps.of_below (below_drewN hb34 _)) ?r19
  case y19 => (intro w' hSw; go_simp; try rfl)
  try simp only [Act.put, List.setIfInBounds_toArray, List.set_cons_zero, List.set_cons_succ]
  refine' wpAnyH_take (i := 20) (oi := ⟨some 4, _, _, _, _, _⟩) (v := _) rfl (by kernel_rfl) (by kernel_rfl) (by kernel_rfl) (fun _ _ _ h => h) (Or.inl ⟨by rfl, ?y20⟩) (Keeps.of_below (below_drewN hb34 _)) ?r20
  case y20 => (intro w' hSw; go_simp; try rfl)
  try simp only [Act.put, List.setIfInBounds_toArray, List.set_cons_zero, List.set_cons_succ]
  refine wpAnyH_done (by kernel_rfl) ?_ _
  go_wp2
  go_ret
  exact ⟨rfl, Hb1.trans ((below_drewN hb34 _).mono Hb1.size)⟩
end Go.Proofs.Ytoglhpcboonpeaa

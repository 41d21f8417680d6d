/-
  The walks of the document's Copy, Same, Join, Covers.
-/
import Derived.Test.YtoglhpcboonpeaaCtxCopy
import Derived.Test.YtoglhpcboonpeaaCtxJoinM
namespace Go.Proofs.Ytoglhpcboonpeaa
open Go.RowKit
open CtxM
set_option linter.unusedVariables false
set_option linter.unusedSimpArgs false
set_option maxRecDepth 20000

/-- Dots appended, as one step of a region that draws. -/
theorem step_append_dots {P : Program} {w : World} {ops : Array Oper} {o : Oper} {a : Act} {K : Act → World → Prop} {Q : Exit → Act → World → Prop} {E : Prop} (hgd : o.guard = none) (s x : Operand) (t : TypeId)
    (ho : o.op = .call { callee := .builtin .append, args := #[s, x], argTypes := #[t, t] })
    (base : Nat) (i : TypeInfo) (ht : P.underlying t = some (.slice 35)) (hi : P.info? 35 = some i) (hz : i.zero = some (.agg #[.int .i64 0, .int .u64 0]))
    (hsize : i.size = 2) (hby : i.bytes = 16) (v : Value) (l : List Dt) (hs : a.eval s = v) (hown : OwnD w base v l)
    (v2 : Value) (m : List Dt) (hx : a.eval x = v2) (hm : Sd w v2 m) (hlen : l.length + m.length ≤ 1000000) (hbase : base ≤ w.heap.size)
    (h : ∀ v' w', OwnD w' base v' (l ++ m) → w.grownBy w' v.ownBlock → K (a.put o.dst v') w') : if Region.wanted o (yielded ops a.tmps) = true then Oper.wp P o a w K Q else E := by
  have hw : Region.wanted o (yielded ops a.tmps) = true := by simp [Region.wanted, hgd]
  rw [if_pos hw]
  obtain ⟨v', w', hr, h2, h3, h4, h5⟩ := run_append_dots (P := P) w base t o.type i ht hi hz hsize hby v l hown v2 m hm hlen hbase
  unfold Oper.wp execOp
  simp only [ho, resolve, invoke, builtin, Sem.run_bind, Sem.run_pure, Result.andThen_ok, List.map_toArray, List.map_cons, List.map_nil, hs, hx, hr]
  exact h v' w' h2 h3

set_option maxHeartbeats 4000000 in
theorem refCopy_any (g : Nat) (v : Value) (V : List Nat) (X : List Dt) (w : World) (hc : Sx w g v V X) (hl : X.length ≤ 100000) :
    Calls Try.prog 29 #[.pointer (some ⟨g, 0, none⟩)] w fun e w' => ∃ h v', e = .returned (.pointer (some ⟨h, 0, none⟩)) ∧ Sx w' h v' V X ∧ (∀ j, Foot h v' j → w.heap.size ≤ j) ∧ Below w.heap.size w w' := by
  have hfo : Try.prog.follows .mixedOrders = true := by kernel_rfl
  obtain ⟨i0, hi0, hz0, hz1, hz2⟩ := info_parts info_dot
  have Hc := Lib.hid hc
  clear hc
  go_enter Try.func29, Try.ntmps29
  go_wp2_with fail
  refine held_begin hfo ?_
  have Cc := Sx.below Hc.out (Below.refl _ _).drew
  have Hb1 : Below w.heap.size w w.drew := (Below.refl _ _).drew
  have hsz : w.drew.heap.size = w.heap.size := rfl
  clear Hc
  generalize w.drew = W2 at Cc Hb1 hsz ⊢
  have rc := Cc.range
  have pc := Cc.extra
  have hV := Cc.fit.len
  have hrow := Cc.row
  have hfit := Cc.fit
  obtain ⟨A, c, rfl, _⟩ := Cc.row
  refine' wpAnyH_take (i := 0) (oi := ⟨some 3, _, _, _, _, _⟩) (v := _) rfl (by kernel_rfl) (by kernel_rfl) (by kernel_rfl) (fun _ _ _ h => h) (Or.inl ⟨by rfl, ?y0⟩) (Keeps.refl _) ?ry0
  case y0 => (intro w' hSw; go_simp; try rfl)
  try simp only [Act.put, List.setIfInBounds_toArray, List.set_cons_zero, List.set_cons_succ]
  refine' wpAnyH_take (i := 1) (oi := ⟨some 4, _, _, _, _, _⟩) (v := _) rfl (by kernel_rfl) (by kernel_rfl) (by kernel_rfl) (fun _ _ _ h => h) (Or.inl ⟨by rfl, ?y1⟩) (Keeps.refl _) ?ry1
  case y1 => (intro w' hSw; go_simp; try rfl)
  try simp only [Act.put, List.setIfInBounds_toArray, List.set_cons_zero, List.set_cons_succ]
  refine' wpAnyH_take (i := 2) (oi := ⟨some 5, _, _, _, _, _⟩) (v := _) rfl (by kernel_rfl) (by kernel_rfl) (by kernel_rfl) (fun _ _ _ h => h) (Or.inl ⟨by rfl, ?y2⟩) (Keeps.refl _) ?ry2
  case y2 => (intro w' hSw; go_simp; try rfl)
  try simp only [Act.put, List.setIfInBounds_toArray, List.set_cons_zero, List.set_cons_succ]
  refine' wpAnyH_take (i := 3) (oi := ⟨some 6, _, _, _, _, _⟩) (v := _) rfl (by kernel_rfl) (by kernel_rfl) (by kernel_rfl) (fun _ _ _ h => h) (yieldsIf_load_mid (by rfl) 28 (.tmp 5) rfl g 0 rfl (V.map uq) _ (fun w' hSw => Keeps.range rc hSw) Try.underlying28 rfl (by rw [info_arr, List.length_map, hV])) (Keeps.refl _) ?ry3
  try simp only [Act.put, List.setIfInBounds_toArray, List.set_cons_zero, List.set_cons_succ]
  refine' wpAnyH_take (i := 4) (oi := ⟨some 7, _, _, _, _, _⟩) (v := _) rfl (by kernel_rfl) (by kernel_rfl) (by kernel_rfl) (fun _ _ _ h => h) (Or.inl ⟨by rfl, ?y4⟩) (Keeps.refl _) ?ry4
  case y4 => (intro w' hSw; go_simp; try rfl)
  try simp only [Act.put, List.setIfInBounds_toArray, List.set_cons_zero, List.set_cons_succ]
  refine' wpAnyH_take (i := 5) (oi := ⟨some 8, _, _, _, _, _⟩) (v := _) rfl (by kernel_rfl) (by kernel_rfl) (by kernel_rfl) (fun _ _ _ h => h) (Or.inl ⟨by rfl, ?y5⟩) (Keeps.refl _) ?ry5
  case y5 => (intro w' hSw; go_simp; try rfl)
  try simp only [Act.put, List.setIfInBounds_toArray, List.set_cons_zero, List.set_cons_succ]
  refine' wpAnyH_take (i := 6) (oi := ⟨some 9, _, _, _, _, _⟩) (v := _) rfl (by kernel_rfl) (by kernel_rfl) (by kernel_rfl) (fun _ _ _ h => h) (Or.inl ⟨by rfl, ?y6⟩) (Keeps.refl _) ?ry6
  case y6 => (intro w' hSw; go_simp; try rfl)
  try simp only [Act.put, List.setIfInBounds_toArray, List.set_cons_zero, List.set_cons_succ]
  refine' wpAnyH_take (i := 7) (oi := ⟨some 10, _, _, _, _, _⟩) (v := _) rfl (by kernel_rfl) (by kernel_rfl) (by kernel_rfl) (fun _ _ _ h => h) (Or.inl ⟨by rfl, ?y7⟩) (Keeps.refl _) ?ry7
  case y7 => (intro w' hSw; have q0 := hSw _ _ pc; go_simp; try rfl)
  try simp only [Act.put, List.setIfInBounds_toArray, List.set_cons_zero, List.set_cons_succ]
  refine held_one (i := 8) (by kernel_rfl) rfl (fun K hK => ?_)
  refine step_append_dots rfl (.const (.slice none 0 0)) (.tmp 10) 22 rfl W2.heap.size i0 Try.underlying22 hi0 hz0 hz1 hz2 (.slice none 0 0) [] rfl OwnD.nil _ X rfl hrow (by simp; omega) (Nat.le_refl _) ?_
  intro v' W3 ho hgr
  have hb := below_of_grown hgr
  rw [List.nil_append] at ho
  have kS := Keeps.of_below hb
  obtain ⟨A', c', rfl, _⟩ := id ho.sd
  refine hK.out _ _ kS (fun _ => ?_)
  clear hK K
  try simp only [Act.put, List.setIfInBounds_toArray, List.set_cons_zero, List.set_cons_succ]
  refine' wpAnyH_take (i := 9) (oi := ⟨some 12, _, _, _, _, _⟩) (v := (.agg (sxc V (.slice A' X.length c')))) rfl (by kernel_rfl) (by kernel_rfl) (by kernel_rfl) (fun _ _ _ h => h) (Or.inl ⟨by rfl, ?y9⟩) kS ?ry9
  case y9 => (intro w' hSw; clear Cc rc pc hfit; obtain ⟨a0, a1, a2, a3, a4, a5, a6, a7, a8, a9, a10, a11, a12, a13, a14, a15, rfl⟩ := list16 hV; go_simp; try rfl)
  try simp only [Act.put, List.setIfInBounds_toArray, List.set_cons_zero, List.set_cons_succ]
  refine held_one (i := 10) (by kernel_rfl) rfl (fun K hK => ?_)
  go_simp
  have kS2 := kS.trans (Keeps.of_below ((Below.refl W3.heap.size W3).alloc (Nat.le_refl _) (.cells (sxc V (.slice A' X.length c')) 30)))
  refine hK.out _ _ kS2 (fun _ => ?_)
  clear hK K
  try simp only [Act.put, List.setIfInBounds_toArray, List.set_cons_zero, List.set_cons_succ]
  refine' wpAnyH_take (i := 11) (oi := ⟨some 2, _, _, _, _, _⟩) (v := _) rfl (by kernel_rfl) (by kernel_rfl) (by kernel_rfl) (fun _ _ _ h => h) (Or.inl ⟨by rfl, ?y11⟩) kS2 ?ry11
  case y11 => (intro w' hSw; go_simp; try rfl)
  try simp only [Act.put, List.setIfInBounds_toArray, List.set_cons_zero, List.set_cons_succ]
  refine wpAnyH_done (by kernel_rfl) ?_ _
  go_wp2
  go_ret
  refine ⟨W3.heap.size, .slice A' X.length c', rfl, sx_new W3 V X _ (ho.mono (Nat.zero_le _)) hfit, ?_, ?_⟩
  · rintro j (rfl | hj)
    · have := hb.size; omega
    · have := (ho.lt j hj).1; omega
  · exact (Hb1.trans (hb.mono (by omega))).alloc (by have := hb.size; omega) _

/-- Two arrays of sixteen compared. -/
theorem arr_eq (a b : List Nat) (ha : a.length = 16) (hb : b.length = 16) (w : World) : (Op.equalIn 10000 28 (.agg (uqs a)) (.agg (uqs b))).run Try.prog w = .ok (decide (a = b)) w := by
  obtain ⟨i0, hi, _⟩ := info_parts info_u64
  rw [run_equalIn_array w 9999 (uqs a) (uqs b) Try.underlying28 hi, cells_u64, eqItems_uqs 9998 a b (by omega) w _ (fun i hi => by simp at hi; omega), all_eqN a b 16 ha hb]

set_option maxHeartbeats 4000000 in
theorem refSame_any (g h : Nat) (v u : Value) (V V' : List Nat) (X X' : List Dt) (w : World) (hc : Sx w g v V X) (ho : Sx w h u V' X') (hl : X.length ≤ 100000) (hl' : X'.length ≤ 100000) :
    Calls Try.prog 26 #[.pointer (some ⟨g, 0, none⟩), .pointer (some ⟨h, 0, none⟩)] w fun e w' => e = .returned (.bool (decide (V = V' ∧ X = X'))) ∧ Below w.heap.size w w' := by
  have hfo : Try.prog.follows .mixedOrders = true := by kernel_rfl
  have Hc := Lib.hid hc
  have Ho := Lib.hid ho
  clear hc ho
  go_enter Try.func26, Try.ntmps26
  go_wp2_with fail
  refine held_begin hfo ?_
  have Cc := Sx.below Hc.out (Below.refl _ _).drew
  have Co := Sx.below Ho.out (Below.refl _ _).drew
  have Hb1 : Below w.heap.size w w.drew := (Below.refl _ _).drew
  clear Hc Ho
  generalize w.drew = W2 at Cc Co Hb1 ⊢
  have rc := Cc.range
  have ro := Co.range
  have pc := Cc.extra
  have po := Co.extra
  have hV := Cc.fit.len
  have hV' := Co.fit.len
  have hrc := Cc.row
  have hro := Co.row
  have hve : ∀ w, (Op.equalIn 10000 28 (.agg (V.map uq).toArray) (.agg (V'.map uq).toArray)).run Try.prog w = .ok (decide (V = V')) w := fun w => arr_eq V V' hV hV' w
  obtain ⟨A, c, rfl, _⟩ := Cc.row
  obtain ⟨B, c', rfl, _⟩ := Co.row
  refine' wpAnyH_take (i := 0) (oi := ⟨some 5, _, _, _, _, _⟩) (v := _) rfl (by kernel_rfl) (by kernel_rfl) (by kernel_rfl) (fun _ _ _ h => h) (Or.inl ⟨by rfl, ?y0⟩) (Keeps.refl _) ?ry0
  case y0 => (intro w' hSw; go_simp; try rfl)
  try simp only [Act.put, List.setIfInBounds_toArray, List.set_cons_zero, List.set_cons_succ]
  refine' wpAnyH_take (i := 1) (oi := ⟨some 6, _, _, _, _, _⟩) (v := _) rfl (by kernel_rfl) (by kernel_rfl) (by kernel_rfl) (fun _ _ _ h => h) (Or.inl ⟨by rfl, ?y1⟩) (Keeps.refl _) ?ry1
  case y1 => (intro w' hSw; go_simp; try rfl)
  try simp only [Act.put, List.setIfInBounds_toArray, List.set_cons_zero, List.set_cons_succ]
  refine' wpAnyH_take (i := 2) (oi := ⟨some 7, _, _, _, _, _⟩) (v := _) rfl (by kernel_rfl) (by kernel_rfl) (by kernel_rfl) (fun _ _ _ h => h) (Or.inl ⟨by rfl, ?y2⟩) (Keeps.refl _) ?ry2
  case y2 => (intro w' hSw; go_simp; try rfl)
  try simp only [Act.put, List.setIfInBounds_toArray, List.set_cons_zero, List.set_cons_succ]
  refine' wpAnyH_take (i := 3) (oi := ⟨some 8, _, _, _, _, _⟩) (v := _) rfl (by kernel_rfl) (by kernel_rfl) (by kernel_rfl) (fun _ _ _ h => h) (yieldsIf_load_mid (by rfl) 28 (.tmp 7) rfl g 0 rfl (V.map uq) _ (fun w' hSw => Keeps.range rc hSw) Try.underlying28 rfl (by rw [info_arr, List.length_map, hV])) (Keeps.refl _) ?ry3
  try simp only [Act.put, List.setIfInBounds_toArray, List.set_cons_zero, List.set_cons_succ]
  refine' wpAnyH_take (i := 4) (oi := ⟨some 9, _, _, _, _, _⟩) (v := _) rfl (by kernel_rfl) (by kernel_rfl) (by kernel_rfl) (fun _ _ _ h => h) (Or.inl ⟨by rfl, ?y4⟩) (Keeps.refl _) ?ry4
  case y4 => (intro w' hSw; go_simp; try rfl)
  try simp only [Act.put, List.setIfInBounds_toArray, List.set_cons_zero, List.set_cons_succ]
  refine' wpAnyH_take (i := 5) (oi := ⟨some 10, _, _, _, _, _⟩) (v := _) rfl (by kernel_rfl) (by kernel_rfl) (by kernel_rfl) (fun _ _ _ h => h) (Or.inl ⟨by rfl, ?y5⟩) (Keeps.refl _) ?ry5
  case y5 => (intro w' hSw; go_simp; try rfl)
  try simp only [Act.put, List.setIfInBounds_toArray, List.set_cons_zero, List.set_cons_succ]
  refine' wpAnyH_take (i := 6) (oi := ⟨some 11, _, _, _, _, _⟩) (v := _) rfl (by kernel_rfl) (by kernel_rfl) (by kernel_rfl) (fun _ _ _ h => h) (Or.inl ⟨by rfl, ?y6⟩) (Keeps.refl _) ?ry6
  case y6 => (intro w' hSw; go_simp; try rfl)
  try simp only [Act.put, List.setIfInBounds_toArray, List.set_cons_zero, List.set_cons_succ]
  refine' wpAnyH_take (i := 7) (oi := ⟨some 12, _, _, _, _, _⟩) (v := _) rfl (by kernel_rfl) (by kernel_rfl) (by kernel_rfl) (fun _ _ _ h => h) (yieldsIf_load_mid (by rfl) 28 (.tmp 11) rfl h 0 rfl (V'.map uq) _ (fun w' hSw => Keeps.range ro hSw) Try.underlying28 rfl (by rw [info_arr, List.length_map, hV'])) (Keeps.refl _) ?ry7
  try simp only [Act.put, List.setIfInBounds_toArray, List.set_cons_zero, List.set_cons_succ]
  by_cases hvv : V = V'
  · rw [decide_eq_true hvv] at hve
    have HV := Lib.hid hvv
    clear hvv
    refine' wpAnyH_take (i := 8) (oi := ⟨some 13, _, _, _, _, _⟩) (v := _) rfl (by kernel_rfl) (by kernel_rfl) (by kernel_rfl) (fun _ _ _ h => h) (Or.inl ⟨by rfl, ?y8⟩) (Keeps.refl _) ?ry8
    case y8 => (intro w' hSw; go_simp; try rfl)
    try simp only [Act.put, List.setIfInBounds_toArray, List.set_cons_zero, List.set_cons_succ]
    refine' wpAnyH_take (i := 9) (oi := ⟨some 14, _, _, _, _, _⟩) (v := _) rfl (by kernel_rfl) (by kernel_rfl) (by kernel_rfl) (fun _ _ _ h => h) (Or.inl ⟨by rfl, ?y9⟩) (Keeps.refl _) ?ry9
    case y9 => (intro w' hSw; go_simp; try rfl)
    try simp only [Act.put, List.setIfInBounds_toArray, List.set_cons_zero, List.set_cons_succ]
    refine' wpAnyH_take (i := 10) (oi := ⟨some 15, _, _, _, _, _⟩) (v := _) rfl (by kernel_rfl) (by kernel_rfl) (by kernel_rfl) (fun _ _ _ h => h) (Or.inl ⟨by rfl, ?y10⟩) (Keeps.refl _) ?ry10
    case y10 => (intro w' hSw; go_simp; try rfl)
    try simp only [Act.put, List.setIfInBounds_toArray, List.set_cons_zero, List.set_cons_succ]
    refine' wpAnyH_take (i := 11) (oi := ⟨some 16, _, _, _, _, _⟩) (v := _) rfl (by kernel_rfl) (by kernel_rfl) (by kernel_rfl) (fun _ _ _ h => h) (Or.inl ⟨by rfl, ?y11⟩) (Keeps.refl _) ?ry11
    case y11 => (intro w' hSw; go_simp; try rfl)
    try simp only [Act.put, List.setIfInBounds_toArray, List.set_cons_zero, List.set_cons_succ]
    refine' wpAnyH_take (i := 12) (oi := ⟨some 17, _, _, _, _, _⟩) (v := _) rfl (by kernel_rfl) (by kernel_rfl) (by kernel_rfl) (fun _ _ _ h => h) (Or.inl ⟨by rfl, ?y12⟩) (Keeps.refl _) ?ry12
    case y12 => (intro w' hSw; go_simp; try rfl)
    try simp only [Act.put, List.setIfInBounds_toArray, List.set_cons_zero, List.set_cons_succ]
    refine' wpAnyH_take (i := 13) (oi := ⟨some 18, _, _, _, _, _⟩) (v := _) rfl (by kernel_rfl) (by kernel_rfl) (by kernel_rfl) (fun _ _ _ h => h) (Or.inl ⟨by rfl, ?y13⟩) (Keeps.refl _) ?ry13
    case y13 => (intro w' hSw; have q0 := hSw _ _ pc; go_simp; try rfl)
    try simp only [Act.put, List.setIfInBounds_toArray, List.set_cons_zero, List.set_cons_succ]
    refine' wpAnyH_take (i := 14) (oi := ⟨some 19, _, _, _, _, _⟩) (v := _) rfl (by kernel_rfl) (by kernel_rfl) (by kernel_rfl) (fun _ _ _ h => h) (Or.inl ⟨by rfl, ?y14⟩) (Keeps.refl _) ?ry14
    case y14 => (intro w' hSw; go_simp; try rfl)
    try simp only [Act.put, List.setIfInBounds_toArray, List.set_cons_zero, List.set_cons_succ]
    refine' wpAnyH_take (i := 15) (oi := ⟨some 20, _, _, _, _, _⟩) (v := _) rfl (by kernel_rfl) (by kernel_rfl) (by kernel_rfl) (fun _ _ _ h => h) (Or.inl ⟨by rfl, ?y15⟩) (Keeps.refl _) ?ry15
    case y15 => (intro w' hSw; go_simp; try rfl)
    try simp only [Act.put, List.setIfInBounds_toArray, List.set_cons_zero, List.set_cons_succ]
    refine' wpAnyH_take (i := 16) (oi := ⟨some 21, _, _, _, _, _⟩) (v := _) rfl (by kernel_rfl) (by kernel_rfl) (by kernel_rfl) (fun _ _ _ h => h) (Or.inl ⟨by rfl, ?y16⟩) (Keeps.refl _) ?ry16
    case y16 => (intro w' hSw; go_simp; try rfl)
    try simp only [Act.put, List.setIfInBounds_toArray, List.set_cons_zero, List.set_cons_succ]
    refine' wpAnyH_take (i := 17) (oi := ⟨some 22, _, _, _, _, _⟩) (v := _) rfl (by kernel_rfl) (by kernel_rfl) (by kernel_rfl) (fun _ _ _ h => h) (Or.inl ⟨by rfl, ?y17⟩) (Keeps.refl _) ?ry17
    case y17 => (intro w' hSw; have q0 := hSw _ _ po; go_simp; try rfl)
    try simp only [Act.put, List.setIfInBounds_toArray, List.set_cons_zero, List.set_cons_succ]
    refine held_one (i := 18) (by kernel_rfl) rfl (fun K hK => ?_)
    go_simp
    refine (sameDots_any _ _ X X' W2 hrc hro hl hl').mono ?_
    rintro e W3 ⟨rfl, n3, rfl⟩
    refine hK.out _ _ (Keeps.of_below (below_drewN (Below.refl _ _) _)) (fun _ => ?_)
    clear hK K
    try simp only [Act.put, List.setIfInBounds_toArray, List.set_cons_zero, List.set_cons_succ]
    refine' wpAnyH_take (i := 19) (oi := ⟨some 24, _, _, _, _, _⟩) (v := _) rfl (by kernel_rfl) (by kernel_rfl) (by kernel_rfl) (fun _ _ _ h => h) (Or.inl ⟨by rfl, ?y19⟩) (Keeps.of_below (below_drewN (Below.refl _ _) _)) ?ry19
    case y19 => (intro w' hSw; go_simp; try rfl)
    try simp only [Act.put, List.setIfInBounds_toArray, List.set_cons_zero, List.set_cons_succ]
    refine' wpAnyH_take (i := 20) (oi := ⟨some 4, _, _, _, _, _⟩) (v := _) rfl (by kernel_rfl) (by kernel_rfl) (by kernel_rfl) (fun _ _ _ h => h) (Or.inl ⟨by rfl, ?y20⟩) (Keeps.of_below (below_drewN (Below.refl _ _) _)) ?ry20
    case y20 => (intro w' hSw; go_simp; try rfl)
    try simp only [Act.put, List.setIfInBounds_toArray, List.set_cons_zero, List.set_cons_succ]
    refine wpAnyH_done (by kernel_rfl) ?_ _
    go_wp2
    go_ret
    exact ⟨ret_bool (by have := HV.out; simp [this]), below_drewN Hb1 _⟩
  · rw [decide_eq_false hvv] at hve
    have HV := Lib.hid hvv
    clear hvv
    refine' wpAnyH_take (i := 8) (oi := ⟨some 13, _, _, _, _, _⟩) (v := _) rfl (by kernel_rfl) (by kernel_rfl) (by kernel_rfl) (fun _ _ _ h => h) (Or.inl ⟨by rfl, ?z8⟩) (Keeps.refl _) ?rz8
    case z8 => (intro w' hSw; go_simp; try rfl)
    try simp only [Act.put, List.setIfInBounds_toArray, List.set_cons_zero, List.set_cons_succ]
    refine' wpAnyH_take (i := 9) (oi := ⟨some 14, _, _, _, _, _⟩) (v := _) rfl (by kernel_rfl) (by kernel_rfl) (by kernel_rfl) (fun _ _ _ h => h) (Or.inl ⟨by rfl, ?z9⟩) (Keeps.refl _) ?rz9
    case z9 => (intro w' hSw; go_simp; try rfl)
    try simp only [Act.put, List.setIfInBounds_toArray, List.set_cons_zero, List.set_cons_succ]
    refine' wpAnyH_take (i := 10) (oi := ⟨some 15, _, _, _, _, _⟩) (v := undef) rfl (by kernel_rfl) (by kernel_rfl) (by kernel_rfl) (fun _ _ _ h => h) (Or.inr ⟨by rfl, rfl⟩) (Keeps.refl _) ?rz10
    try simp only [Act.put, List.setIfInBounds_toArray, List.set_cons_zero, List.set_cons_succ]
    refine' wpAnyH_take (i := 11) (oi := ⟨some 16, _, _, _, _, _⟩) (v := undef) rfl (by kernel_rfl) (by kernel_rfl) (by kernel_rfl) (fun _ _ _ h => h) (Or.inr ⟨by rfl, rfl⟩) (Keeps.refl _) ?rz11
    try simp only [Act.put, List.setIfInBounds_toArray, List.set_cons_zero, List.set_cons_succ]
    refine' wpAnyH_take (i := 12) (oi := ⟨some 17, _, _, _, _, _⟩) (v := undef) rfl (by kernel_rfl) (by kernel_rfl) (by kernel_rfl) (fun _ _ _ h => h) (Or.inr ⟨by rfl, rfl⟩) (Keeps.refl _) ?rz12
    try simp only [Act.put, List.setIfInBounds_toArray, List.set_cons_zero, List.set_cons_succ]
    refine' wpAnyH_take (i := 13) (oi := ⟨some 18, _, _, _, _, _⟩) (v := undef) rfl (by kernel_rfl) (by kernel_rfl) (by kernel_rfl) (fun _ _ _ h => h) (Or.inr ⟨by rfl, rfl⟩) (Keeps.refl _) ?rz13
    try simp only [Act.put, List.setIfInBounds_toArray, List.set_cons_zero, List.set_cons_succ]
    refine' wpAnyH_take (i := 14) (oi := ⟨some 19, _, _, _, _, _⟩) (v := undef) rfl (by kernel_rfl) (by kernel_rfl) (by kernel_rfl) (fun _ _ _ h => h) (Or.inr ⟨by rfl, rfl⟩) (Keeps.refl _) ?rz14
    try simp only [Act.put, List.setIfInBounds_toArray, List.set_cons_zero, List.set_cons_succ]
    refine' wpAnyH_take (i := 15) (oi := ⟨some 20, _, _, _, _, _⟩) (v := undef) rfl (by kernel_rfl) (by kernel_rfl) (by kernel_rfl) (fun _ _ _ h => h) (Or.inr ⟨by rfl, rfl⟩) (Keeps.refl _) ?rz15
    try simp only [Act.put, List.setIfInBounds_toArray, List.set_cons_zero, List.set_cons_succ]
    refine' wpAnyH_take (i := 16) (oi := ⟨some 21, _, _, _, _, _⟩) (v := undef) rfl (by kernel_rfl) (by kernel_rfl) (by kernel_rfl) (fun _ _ _ h => h) (Or.inr ⟨by rfl, rfl⟩) (Keeps.refl _) ?rz16
    try simp only [Act.put, List.setIfInBounds_toArray, List.set_cons_zero, List.set_cons_succ]
    refine' wpAnyH_take (i := 17) (oi := ⟨some 22, _, _, _, _, _⟩) (v := undef) rfl (by kernel_rfl) (by kernel_rfl) (by kernel_rfl) (fun _ _ _ h => h) (Or.inr ⟨by rfl, rfl⟩) (Keeps.refl _) ?rz17
    try simp only [Act.put, List.setIfInBounds_toArray, List.set_cons_zero, List.set_cons_succ]
    refine' wpAnyH_take (i := 18) (oi := ⟨some 23, _, _, _, _, _⟩) (v := undef) rfl (by kernel_rfl) (by kernel_rfl) (by kernel_rfl) (fun _ _ _ h => h) (Or.inr ⟨by rfl, rfl⟩) (Keeps.refl _) ?rz18
    try simp only [Act.put, List.setIfInBounds_toArray, List.set_cons_zero, List.set_cons_succ]
    refine' wpAnyH_take (i := 19) (oi := ⟨some 24, _, _, _, _, _⟩) (v := _) rfl (by kernel_rfl) (by kernel_rfl) (by kernel_rfl) (fun _ _ _ h => h) (Or.inl ⟨by rfl, ?z19⟩) (Keeps.refl _) ?rz19
    case z19 => (intro w' hSw; go_simp; try rfl)
    try simp only [Act.put, List.setIfInBounds_toArray, List.set_cons_zero, List.set_cons_succ]
    refine' wpAnyH_take (i := 20) (oi := ⟨some 4, _, _, _, _, _⟩) (v := _) rfl (by kernel_rfl) (by kernel_rfl) (by kernel_rfl) (fun _ _ _ h => h) (Or.inl ⟨by rfl, ?z20⟩) (Keeps.refl _) ?rz20
    case z20 => (intro w' hSw; go_simp; try rfl)
    try simp only [Act.put, List.setIfInBounds_toArray, List.set_cons_zero, List.set_cons_succ]
    refine wpAnyH_done (by kernel_rfl) ?_ _
    go_wp2
    go_ret
    exact ⟨ret_bool (by have := HV.out; simp [this]), Hb1⟩

set_option maxHeartbeats 4000000 in
theorem refJoin_any (g h : Nat) (v u : Value) (V V' : List Nat) (X X' : List Dt) (U : List Nat × List Dt) (w : World) (hc : Sx w g v V X) (ho : Sx w h u V' X') (hne : h ≠ g) (hun : u.ownBlock ≠ some g)
    (hF : Fit U.1 U.2) (hI : ∀ d, In U.1 U.2 d ↔ In V X d ∨ In V' X' d) (hl : X.length ≤ 4000) (hl' : X'.length ≤ 4000) :
    Calls Try.prog 30 #[.pointer (some ⟨g, 0, none⟩), .pointer (some ⟨h, 0, none⟩)] w fun e w' => e = .returned (.tuple #[]) ∧ ∃ v', Sx w' g v' U.1 U.2 ∧ Keep (fun i => i = g) w w' ∧ ∀ j, v'.ownBlock = some j → w.heap.size ≤ j := by
  have hfo : Try.prog.follows .mixedOrders = true := by kernel_rfl
  obtain ⟨hfit, hall⟩ := join_add hc.fit ho.fit hF hI
  have hWl := maxV_length V V'
  have hWle := maxV_le hc.fit.le ho.fit.le
  have hWk := fun k (hk : k < 16) => maxV_getD V V' k hk
  have hcs := cp_short X (maxV V V')
  have Hc := Lib.hid hc
  have Ho := Lib.hid ho
  have HF := Lib.hid hfit
  have HA := Lib.hid hall
  have HI := Lib.hid hI
  have hV := hc.fit.len
  have hV' := ho.fit.len
  have hglt := hc.blk.lt
  have hmx : ∀ d ∈ X', May d := ho.fit.may
  have HM := Lib.hid hmx
  have HW := Lib.hid hWk
  clear hc ho hfit hall hI hmx hWk
  go_enter Try.func30, Try.ntmps30
  go_wp2
  go_loopw [4] (fun z wr => ∃ i : Nat, z = .int .i64 (i : Int) ∧ i ≤ 16 ∧ ∃ U, Mix (maxV V V') V U i ∧ Blk wr g 30 (sxc U v) ∧ Keep (fun i => i = g) w wr) (fun z _ => 16 - (intOf z).toNat)
  case atStart => exact ⟨0, rfl, Nat.zero_le _, V, Mix.start hV _, Hc.out.blk, Keep.refl _ _⟩
  case round =>
    obtain ⟨i, rfl, hi, Z, hZ, hB, hk⟩ := hrel
    by_cases hlt : i < 16
    · have Co := Ho.out.kept hk (fun j hj e => by rcases hj with hj | hj; exact hne (hj.symm.trans e); exact hun (e ▸ hj))
      have q1 := Co.atk i hlt
      have q2 := sxc_at hB hZ.1 i hlt
      have HZ := Lib.hid hZ
      have HB := Lib.hid hB
      have HK := Lib.hid hk
      have hge : at_ V' ((i : Int) + 1) = V'.getD i 0 := by unfold at_; rw [show ((i : Int) + 1 - 1).toNat = i by omega]
      have hgz : at_ Z ((i : Int) + 1) = V.getD i 0 := by
        have h1 : at_ Z ((i : Int) + 1) = Z.getD i 0 := by unfold at_; rw [show ((i : Int) + 1 - 1).toNat = i by omega]
        rw [h1, hZ.get hlt]; unfold at_; rw [show ((i : Int) + 1 - 1).toNat = i by omega]
      have HZI := Lib.hid (show Z.getD i 0 = V.getD i 0 by rw [← hgz]; unfold at_; rw [show ((i : Int) + 1 - 1).toNat = i by omega])
      have HW1 := Lib.hid (HW.out i hlt)
      rw [hge] at q1
      rw [hgz] at q2
      have HLT := Lib.hid hlt
      have hil : (i : Int) < 16 := by omega
      generalize V'.getD i 0 = b at q1 HW1
      generalize V.getD i 0 = a at q2 HW1 HZI
      clear hZ hB hk hge hgz Co hlt
      by_cases hgt : a < b
      · have hgt2 : decide ((a : Int) < (b : Int)) = true := decide_eq_true (by omega)
        have HG := Lib.hid hgt
        clear hgt
        go_wp2_with fail
        go_quiet (fail)
        go_wp2_with fail
        refine wp_region_still_tail 10 hfo (by kernel_rfl) ?_
        simp only [List.take_succ_cons, List.take_zero, List.drop_succ_cons, List.drop_zero]
        change wpStill _ _ (wr.drewN nq).drew (fun a' => wpList _ _ _ _ a' (wr.drewN nq).drew) _ _
        have r1 : (wr.drewN nq).drew.cell? ⟨h, i, none⟩ = some (.int .u64 (b : Int)) := q1
        have r2 : Blk (wr.drewN nq).drew g 30 (sxc Z v) := HB.out
        have r3 : Keep (fun i => i = g) w (wr.drewN nq).drew := HK.out.trans (Keep.of_below (S := fun i => i = g) (below_drewN (Below.refl _ _) nq).drew) (fun _ h => h) (fun _ _ h => h)
        clear q1 q2
        generalize (wr.drewN nq).drew = w3 at r1 r2 r3 ⊢
        have p3 := r2.frozen i
        have p2 := sxc_at r2 HZ.out.1 i HLT.out
        repeat still_step
        refine wpStill_nil ?_
        go_wp2
        have hset := sxc_setOne r2 i b (by rw [HZ.out.1]; exact HLT.out)
        have hmx : (maxV V V').getD i 0 = b := by rw [HW1.out]; have := HG.out; omega
        refine ⟨⟨i + 1, by go_num, HLT.out, Z.set i b, by rw [← hmx]; exact HZ.out.next HLT.out, hset, r3.trans (Keep.setCell (S := fun i => i = g) w3 ⟨g, i, none⟩ _ rfl) (fun _ h => h) (fun _ _ h => h)⟩, by have := HLT.out; simp [intOf]; omega⟩
      · have hgt2 : decide ((a : Int) < (b : Int)) = false := decide_eq_false (by omega)
        have HG := Lib.hid hgt
        clear hgt
        go_wp2_with fail
        go_quiet (fail)
        go_wp2
        have hmx : (maxV V V').getD i 0 = a := by rw [HW1.out]; have := HG.out; omega
        have hsame : Z.set i ((maxV V V').getD i 0) = Z := by
          rw [hmx, ← HZI.out, List.getD_eq_getElem?_getD, List.getElem?_eq_getElem (by rw [HZ.out.1]; exact HLT.out)]
          simp
        refine ⟨⟨i + 1, by go_num, HLT.out, Z, by have := HZ.out.next HLT.out; rw [hsame] at this; exact this, HB.out, HK.out.trans (Keep.of_below (S := fun i => i = g) (below_drewN (Below.refl _ _) nq)) (fun _ h => h) (fun _ _ h => h)⟩, by have := HLT.out; simp [intOf]; omega⟩
    · obtain rfl : i = 16 := by omega
      have hZW := hZ.last hWl
      subst hZW
      have Cs := Hc.out
      have hs1 : Sd wr v X := Cs.row.kept hk (fun j hj e => Cs.ne (e ▸ hj))
      have HK := Lib.hid hk
      have hvn := Cs.ne
      clear hZ hk hlt hi
      go_wp2_with fail
      refine (refCompact_any g v (maxV V V') X wr hB hs1 hvn hWl hWle Cs.fit.may (by omega)).mono ?_
      rintro e w2 ⟨rfl, v1, hB1, ho1, hk1⟩
      have hk2 := HK.out.trans hk1 (fun _ h => h) (fun _ _ h => h)
      have hsz := HK.out.size
      have hS1 : Sx w2 g v1 (cp (maxV V V') X).1 (cp (maxV V V') X).2 := ⟨hB1, ho1.sd, fun i hi => (ho1.lt i hi).2, fun e => by have := (ho1.lt _ e).1; omega, HF.out⟩
      have hnw1 : ∀ j, v1.ownBlock = some j → w.heap.size ≤ j := fun j hj => by have := (ho1.lt j hj).1; omega
      clear hB hs1 hB1 ho1 hk1
      generalize cp (maxV V V') X = S0 at hcs HA hS1 HF
      go_wp2
      rename World => wold
      go_loopw [5] (fun z wq => ∃ (i : Nat) (v2 : Value), z = .int .i64 (i : Int) ∧ i ≤ X'.length ∧ Sx wq g v2 (addAll S0 (X'.take i)).1 (addAll S0 (X'.take i)).2 ∧ Keep (fun i => i = g) w wq ∧ ∀ j, v2.ownBlock = some j → w.heap.size ≤ j) (fun z _ => X'.length - (intOf z).toNat)
      case atStart => exact ⟨0, v1, rfl, Nat.zero_le _, hS1, hk2, hnw1⟩
      case round =>
        clear hS1 hk2 hnw1
        obtain ⟨i, v2, rfl, hi, hS, hk, hnw⟩ := hrel
        have Co := Ho.out.kept hk (fun j hj e => by rcases hj with hj | hj; exact hne (hj.symm.trans e); exact hun (e ▸ hj))
        have hx := Co.extra
        have hrow := Co.row
        obtain ⟨A, c, rfl, _⟩ := Co.row
        clear Co
        by_cases hlt : i < X'.length
        · obtain ⟨d, hd⟩ : ∃ d, X'[i] = d := ⟨_, rfl⟩
          obtain ⟨b, o, rfl, k0, k1⟩ := hrow.at_ i hlt d hd
          have hil : (i : Int) < (X'.length : Int) := by omega
          have hMd : May d := HM.out d (by rw [← hd]; exact List.getElem_mem hlt)
          have hSl : (addAll S0 (X'.take i)).2.length ≤ 9000 := by
            have h1 := addAll_short (X'.take i) S0
            have h2 : (X'.take i).length ≤ i := by rw [List.length_take]; omega
            omega
          have HST := Lib.hid (show addAll S0 (X'.take (i + 1)) = addF (addAll S0 (X'.take i)) d by
            rw [List.take_succ_eq_append_getElem hlt, hd, addAll_append]
            show (if May d then _ else _) = _
            rw [if_pos hMd])
          have HLT := Lib.hid hlt
          have HK := Lib.hid hk
          have HN := Lib.hid hnw
          generalize addAll S0 (X'.take i) = S at hS hSl HST
          clear hd hk hnw hrow
          go_wp2_with fail
          refine (refAdd_any g v2 S.1 S.2 d wr hS hMd (by omega)).mono ?_
          rintro e w3 ⟨rfl, v3, hS3, hk3, hn3⟩
          clear hx k0 k1 hS
          go_wp2
          refine ⟨⟨i + 1, v3, by go_num, HLT.out, by rw [HST.out]; exact hS3, HK.out.trans hk3 (fun _ h => h) (fun _ _ h => h), fun j hj => ?_⟩, by have := HLT.out; simp [intOf]; omega⟩
          rcases hn3 j hj with h1 | h1
          · exact HN.out j h1
          · have := HK.out.size; omega
        · obtain rfl : i = X'.length := by omega
          rw [List.take_length, HA.out] at hS
          have HS := Lib.hid hS
          have HK := Lib.hid hk
          have HN := Lib.hid hnw
          clear hS hk hnw hlt hi
          go_wp2
          go_end0
          exact ⟨rfl, v2, HS.out, HK.out, HN.out⟩

set_option maxHeartbeats 1000000 in
theorem refCovers_any (g h : Nat) (v u : Value) (S T : List Nat × List Dt) (U : List Nat × List Dt) (w : World) (hc : Sx w g v S.1 S.2) (ho : Sx w h u T.1 T.2)
    (hF : Fit U.1 U.2) (hI : ∀ d, In U.1 U.2 d ↔ In S.1 S.2 d ∨ In T.1 T.2 d) (hl : S.2.length ≤ 4000) (hl' : T.2.length ≤ 4000) (hlU : U.2.length ≤ 100000) :
    Calls Try.prog 24 #[.pointer (some ⟨g, 0, none⟩), .pointer (some ⟨h, 0, none⟩)] w fun e w' => e = .returned (.bool (covB S.1 S.2 T.1 T.2)) ∧ Below w.heap.size w w' := by
  rw [covB_union hc.fit ho.fit hF hI]
  have hlo := ho.lt
  go_enter Try.func24, Try.ntmps24
  go_wp2_with fail
  refine (refCopy_any g v S.1 S.2 w hc (by omega)).mono ?_
  rintro e w1 ⟨c, vc, rfl, hC, hlow, hb1⟩
  have hc1 := hc.below hb1
  have ho1 := ho.below hb1
  go_wp2_with fail
  refine (refJoin_any c h vc u S.1 T.1 S.2 T.2 U w1 hC ho1 (fun e => by have h1 := hlow c (.inl rfl); have h2 := hlo h (.inl rfl); omega) (fun e => by have h1 := hlow c (.inl rfl); have h2 := hlo c (.inr e); omega) hF hI hl hl').mono ?_
  rintro e w2 ⟨rfl, vc2, hC2, hk2, _⟩
  have hc2 := hc1.kept hk2 (fun j hj e => by have h1 := hlow c (.inl rfl); have h2 := hc.lt j hj; omega)
  have hb2 : Below w.heap.size w w2 := Keep.below hb1 hk2 hb1.size (fun i hi => by rw [hi]; exact hlow c (.inl rfl))
  clear hC hc1 ho1 hk2
  go_wp2_with fail
  refine (refSame_any c g vc2 v U.1 S.1 U.2 S.2 w2 hC2 hc2 hlU (by omega)).mono ?_
  rintro e w3 ⟨rfl, hb3⟩
  go_wp2
  go_ret
  exact ⟨ret_bool (by simp), hb2.trans (hb3.mono hb2.size)⟩
end Go.Proofs.Ytoglhpcboonpeaa

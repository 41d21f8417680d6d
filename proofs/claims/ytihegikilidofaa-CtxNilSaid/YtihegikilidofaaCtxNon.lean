/-
  What a context answers that is not there, or a zero one.
-/
import Derived.Test.YtihegikilidofaaCtxCovers
namespace Go.Proofs.Ytihegikilidofaa
open Go.RowKit
open CtxM
set_option linter.unusedVariables false
set_option linter.unusedSimpArgs false
set_option maxRecDepth 20000

/-- A context that is none. -/
def Non (w : World) (p : Value) : Prop := p = .pointer none ∨ ∃ g, p = .pointer (some ⟨g, 0, none⟩) ∧ w.cell? ⟨g, 0, none⟩ = some (.bool false)
theorem Non.below {w w' : World} {p : Value} (h : Non w p) (hb : Below w.heap.size w w') : Non w' p := by
  rcases h with h | ⟨g, h, k⟩
  · exact .inl h
  · exact .inr ⟨g, h, (hb.cell (World.block_lt_of_cell? w _ k)).trans k⟩
theorem none_non (p : Value) (w : World) (h : Non w p) : Calls Try.prog 35 #[p] w fun e w' => e = .returned (.bool true) ∧ w' = w := by
  rcases h with rfl | ⟨g, rfl, k⟩
  · exact none_nil w
  · exact none_at g false w k
theorem add_non (p : Value) (d : Dt) (w : World) (h : Non w p) : Calls Try.prog 11 #[p, .agg #[.int .i64 d.1, .int .u64 (d.2 : Int)]] w fun e w' => e = .returned (.tuple #[.bool false, .int .i64 1]) ∧ Below w.heap.size w w' := by
  have hb : Below w.heap.size w (w.alloc (.cells #[.int .i64 d.1, .int .u64 (d.2 : Int)] 35)) := (Below.refl _ _).alloc (Nat.le_refl _) _
  have hn := none_non p _ (h.below hb)
  clear h
  go_enter Try.func11, Try.ntmps11
  go_wp2_with (go_at_call 35; refine hn.mono ?_; rintro e w' ⟨rfl, rfl⟩)
  go_ret2
  exact ⟨rfl, hb⟩
theorem next_non (p : Value) (r : Int) (w : World) (h : Non w p) : Calls Try.prog 20 #[p, .int .i64 r] w fun e w' => e = .returned (.tuple #[.int .u64 0, .int .i64 1]) ∧ w' = w := by
  have hn := none_non p _ h
  clear h
  go_enter Try.func20, Try.ntmps20
  go_wp2_with (go_at_call 35; refine hn.mono ?_; rintro e w' ⟨rfl, rfl⟩)
  go_ret2
  exact ⟨rfl, rfl⟩
theorem has_non (p : Value) (d : Dt) (w : World) (h : Non w p) : Calls Try.prog 16 #[p, .agg #[.int .i64 d.1, .int .u64 (d.2 : Int)]] w fun e w' => e = .returned (.bool false) ∧ Below w.heap.size w w' := by
  have hb : Below w.heap.size w (w.alloc (.cells #[.int .i64 d.1, .int .u64 (d.2 : Int)] 35)) := (Below.refl _ _).alloc (Nat.le_refl _) _
  have hn := none_non p _ (h.below hb)
  clear h
  go_enter Try.func16, Try.ntmps16
  go_wp2_with (go_at_call 35; refine hn.mono ?_; rintro e w' ⟨rfl, rfl⟩)
  go_ret
  exact ⟨rfl, hb⟩
theorem extra_non (p : Value) (w : World) (h : Non w p) : Calls Try.prog 34 #[p] w fun e w' => e = .returned (.slice none 0 0) ∧ w' = w := by
  have hn := none_non p _ h
  clear h
  go_enter Try.func34, Try.ntmps34
  go_wp2_with (go_at_call 35; refine hn.mono ?_; rintro e w' ⟨rfl, rfl⟩)
  go_ret
  exact ⟨rfl, rfl⟩
theorem vector_non (p : Value) (w : World) (h : Non w p) : Calls Try.prog 33 #[p] w fun e w' => e = .returned (.agg (uqs zeros)) ∧ Below w.heap.size w w' := by
  have hb : Below w.heap.size w (w.alloc (.cells #[.int .u64 0, .int .u64 0, .int .u64 0, .int .u64 0, .int .u64 0, .int .u64 0, .int .u64 0, .int .u64 0, .int .u64 0, .int .u64 0, .int .u64 0, .int .u64 0, .int .u64 0, .int .u64 0, .int .u64 0, .int .u64 0] 52)) := (Below.refl _ _).alloc (Nat.le_refl _) _
  have hn := none_non p _ (h.below hb)
  have hB := Blk.new w 52 #[.int .u64 0, .int .u64 0, .int .u64 0, .int .u64 0, .int .u64 0, .int .u64 0, .int .u64 0, .int .u64 0, .int .u64 0, .int .u64 0, .int .u64 0, .int .u64 0, .int .u64 0, .int .u64 0, .int .u64 0, .int .u64 0]
  have hth := hB.there
  have hinf := uqs_info (U := zeros) rfl
  have hone := uqs_one zeros
  clear h
  go_enter Try.func33, Try.ntmps33
  go_wp2_with (first | (go_at_call 35; refine hn.mono ?_; rintro e w' ⟨rfl, rfl⟩) | (refine wpList_store_mid rfl 52 _ _ rfl w.heap.size 0 (uqs zeros) rfl rfl hth hinf hone ?_))
  have hE := hB.setRow (ds := uqs zeros) rfl
  exact bodyPost_ret (v := .agg (uqs zeros)) (results_cell_row rfl _ _ w.heap.size 52 (uqs zeros) (0, 0) _ rfl hE Try.underlying52 rfl hinf) rfl ⟨rfl, Below.only hb (grown_setCells _ _ _ _) (Nat.le_refl _) hb.size⟩
theorem copy_non (p : Value) (w : World) (h : Non w p) : Calls Try.prog 27 #[p] w fun e w' => e = .returned (.pointer none) ∧ w' = w := by
  have hn := none_non p _ h
  clear h
  go_enter Try.func27, Try.ntmps27
  go_wp2_with (go_at_call 35; refine hn.mono ?_; rintro e w' ⟨rfl, rfl⟩)
  go_ret
  exact ⟨rfl, rfl⟩
theorem join_non (p q : Value) (w : World) (h : Non w p ∨ Non w q) (hp : Non w p ∨ ∃ g v V X, p = .pointer (some ⟨g, 0, none⟩) ∧ Cx w g v V X) : Calls Try.prog 28 #[p, q] w fun e w' => e = .returned (.int .i64 1) ∧ w' = w := by
  rcases hp with hp | ⟨g, v, V, X, rfl, hc⟩
  · have hn := none_non p _ hp
    clear h hp
    go_enter Try.func28, Try.ntmps28
    go_wp2_with (go_at_call 35; refine hn.mono ?_; rintro e w' ⟨rfl, rfl⟩)
    go_ret
    exact ⟨rfl, rfl⟩
  · have h2 : Non w q := h.elim (fun h => by
      rcases h with h | ⟨g', h, k⟩
      · cases h
      · injection h with h; injection h with h; injection h with h; subst h
        rw [hc.made] at k; cases k) id
    have hn1 := none_at g true w hc.made
    have hn2 := none_non q _ h2
    clear h h2 hc
    go_enter Try.func28, Try.ntmps28
    go_wp2_with fail
    refine hn1.mono ?_
    rintro e w' ⟨rfl, rfl⟩
    go_wp2_with fail
    refine hn2.mono ?_
    rintro e w' ⟨rfl, rfl⟩
    go_wp2
    go_ret
    exact ⟨rfl, rfl⟩
theorem same_non (p q : Value) (w : World) (h : Non w p) (hq : Non w q) : Calls Try.prog 25 #[p, q] w fun e w' => e = .returned (.bool true) ∧ w' = w := by
  have hn1 := none_non p _ h
  have hn2 := none_non q _ hq
  clear h hq
  go_enter Try.func25, Try.ntmps25
  go_wp2_with fail
  refine hn1.mono ?_
  rintro e w' ⟨rfl, rfl⟩
  go_wp2_with fail
  refine hn1.mono ?_
  rintro e w' ⟨rfl, rfl⟩
  go_wp2_with fail
  refine hn2.mono ?_
  rintro e w' ⟨rfl, rfl⟩
  go_wp2
  go_ret
  exact ⟨rfl, rfl⟩
theorem same_half (p : Value) (h : Nat) (u : Value) (V : List Nat) (X : List Dt) (w : World) (hp : Non w p) (ho : Cx w h u V X) : Calls Try.prog 25 #[p, .pointer (some ⟨h, 0, none⟩)] w fun e w' => e = .returned (.bool false) ∧ w' = w := by
  have hn1 := none_non p _ hp
  have hn2 := none_at h true w ho.made
  clear hp ho
  go_enter Try.func25, Try.ntmps25
  go_wp2_with fail
  refine hn1.mono ?_
  rintro e w' ⟨rfl, rfl⟩
  go_wp2_with fail
  refine hn1.mono ?_
  rintro e w' ⟨rfl, rfl⟩
  go_wp2_with fail
  refine hn2.mono ?_
  rintro e w' ⟨rfl, rfl⟩
  go_wp2
  go_ret
  exact ⟨rfl, rfl⟩
theorem covers_nil (p q : Value) (w : World) (hsh : ∃ a, p = .pointer a) (hq : Non w q) : Calls Try.prog 23 #[p, q] w fun e w' => e = .returned (.bool true) ∧ Below w.heap.size w w' := by
  obtain ⟨a, rfl⟩ := hsh
  have hb : Below w.heap.size w (w.alloc (.cells #[.pointer a] 24)) := (Below.refl _ _).alloc (Nat.le_refl _) _
  have hn := none_non q _ (hq.below hb)
  clear hq
  go_enter Try.func23, Try.ntmps23
  go_wp2_with (go_at_call 35; refine hn.mono ?_; rintro e w' ⟨rfl, rfl⟩)
  go_ret
  exact ⟨rfl, hb⟩

set_option maxHeartbeats 4000000 in
theorem covers_non (a : Option Addr) (h : Nat) (u : Value) (V' : List Nat) (X' : List Dt) (w : World) (hc : Non w (.pointer a)) (ho : Cx w h u V' X') (hl' : X'.length ≤ 100000) :
    Calls Try.prog 23 #[.pointer a, .pointer (some ⟨h, 0, none⟩)] w fun e w' => e = .returned (.bool (covB zeros [] V' X')) ∧ Below w.heap.size w w' := by
  have hfo : Try.prog.follows .mixedOrders = true := by kernel_rfl
  have hb1 : Below w.heap.size w (w.alloc (.cells #[.pointer a] 24)) := (Below.refl _ _).alloc (Nat.le_refl _) _
  have Ho1 := ho.below hb1
  have Bb := Blk.new w 24 #[.pointer a]
  have pb : (w.alloc (.cells #[.pointer a] 24)).cell? ⟨w.heap.size, 0, none⟩ = some (.pointer a) := by rw [Bb.cell]; rfl
  have hol := ho.lt
  have hn1 := none_at h true _ Ho1.made
  have hn2 := none_non _ _ (hc.below hb1)
  clear hc ho
  go_enter Try.func23, Try.ntmps23
  go_wp2_with fail
  refine hn1.mono ?_
  rintro e w1 ⟨rfl, rfl⟩
  go_wp2_with fail
  refine hn2.mono ?_
  rintro e w1 ⟨rfl, rfl⟩
  go_wp2_with fail
  generalize w.alloc (.cells #[.pointer a] 24) = W0 at hb1 Ho1 Bb ⊢
  refine (new_any W0).mono ?_
  rintro e w1 ⟨rfl, hcN, hbN⟩
  have Bb1 := Bb.below hbN Bb.lt
  have pf := Bb1.frozen 0
  have pc : w1.cell? ⟨w.heap.size, 0, none⟩ = some (.pointer a) := by rw [Bb1.cell]; rfl
  have hwl := Bb.lt
  clear hn1 hn2 pb
  go_wp2_with fail
  have kS : Keep (fun i => i = w.heap.size) w1 (w1.setCell ⟨w.heap.size, 0, none⟩ (.pointer (some ⟨W0.heap.size, 0, none⟩))) := Keep.setCell _ _ _ rfl
  have Hc := hcN.kept kS (by rintro i (rfl | h); omega; cases h)
  have Ho2 := Ho1.below hbN
  have Kb : (w1.setCell ⟨w.heap.size, 0, none⟩ (.pointer (some ⟨W0.heap.size, 0, none⟩))).cell? ⟨w.heap.size, 0, none⟩ = some (.pointer (some ⟨W0.heap.size, 0, none⟩)) := by rw [(Bb1.set_ 0 _).cell]; rfl
  have Hb : Below w.heap.size w (w1.setCell ⟨w.heap.size, 0, none⟩ (.pointer (some ⟨W0.heap.size, 0, none⟩))) := Keep.below (hb1.trans (hbN.mono hb1.size)) kS (Nat.le_trans hb1.size hbN.size) (fun i hi => by omega)
  have Ho := Ho2.kept kS (fun i hi e => by have := hol i hi; omega)
  clear hcN hbN Bb1 pf pc kS Ho2 Ho1 Bb hb1
  generalize w1.setCell ⟨w.heap.size, 0, none⟩ (.pointer (some ⟨W0.heap.size, 0, none⟩)) = W1 at Hc Ho Kb Hb ⊢
  refine held_begin hfo ?_
  have Cc : Cx W1.drew (W0.heap.size) (Value.slice none 0 0) zeros ([] : List Dt) := Cx.below Hc (Below.refl _ _).drew
  have Co : Cx W1.drew h u V' X' := Cx.below Ho (Below.refl _ _).drew
  have kb : W1.drew.cell? ⟨w.heap.size, 0, none⟩ = some (.pointer (some ⟨(W0.heap.size), 0, none⟩)) := Kb
  have Hb1 : Below w.heap.size w W1.drew := Hb.drew
  clear Hc Ho Kb Hb
  generalize W1.drew = W2 at Cc Co kb Hb1 ⊢
  have rc := Cc.range
  have ro := Co.range
  have hV := Cc.fit.len
  have hV' := Co.fit.len
  refine' wpAnyH_take (i := 0) (oi := ⟨some 10, _, _, _, _, _⟩) (v := _) rfl (by kernel_rfl) (by kernel_rfl) (by kernel_rfl) (fun _ _ _ h => h) (Or.inl ⟨by rfl, ?y0⟩) (Keeps.refl _) ?r0
  case y0 => (intro w' hSw; have q0 := hSw _ _ kb; go_simp; try rfl)
  try simp only [Act.put, List.setIfInBounds_toArray, List.set_cons_zero, List.set_cons_succ]
  refine' wpAnyH_take (i := 1) (oi := ⟨some 11, _, _, _, _, _⟩) (v := _) rfl (by kernel_rfl) (by kernel_rfl) (by kernel_rfl) (fun _ _ _ h => h) (Or.inl ⟨by rfl, ?y1⟩) (Keeps.refl _) ?r1
  case y1 => (intro w' hSw; go_simp; try rfl)
  try simp only [Act.put, List.setIfInBounds_toArray, List.set_cons_zero, List.set_cons_succ]
  refine' wpAnyH_take (i := 2) (oi := ⟨some 12, _, _, _, _, _⟩) (v := _) rfl (by kernel_rfl) (by kernel_rfl) (by kernel_rfl) (fun _ _ _ h => h) (Or.inl ⟨by rfl, ?y2⟩) (Keeps.refl _) ?r2
  case y2 => (intro w' hSw; go_simp; try rfl)
  try simp only [Act.put, List.setIfInBounds_toArray, List.set_cons_zero, List.set_cons_succ]
  refine' wpAnyH_take (i := 3) (oi := ⟨some 13, _, _, _, _, _⟩) (v := _) rfl (by kernel_rfl) (by kernel_rfl) (by kernel_rfl) (fun _ _ _ h => h) (yieldsIf_load_mid (by rfl) 52 (.tmp 12) rfl (W0.heap.size) 1 rfl (zeros.map uq) _ (fun w' hSw => Keeps.range rc hSw) Try.underlying52 rfl (by rw [info_vec, List.length_map, hV])) (Keeps.refl _) ?r3
  try simp only [Act.put, List.setIfInBounds_toArray, List.set_cons_zero, List.set_cons_succ]
  refine' wpAnyH_take (i := 4) (oi := ⟨some 14, _, _, _, _, _⟩) (v := _) rfl (by kernel_rfl) (by kernel_rfl) (by kernel_rfl) (fun _ _ _ h => h) (Or.inl ⟨by rfl, ?y4⟩) (Keeps.refl _) ?r4
  case y4 => (intro w' hSw; go_simp; try rfl)
  try simp only [Act.put, List.setIfInBounds_toArray, List.set_cons_zero, List.set_cons_succ]
  refine' wpAnyH_take (i := 5) (oi := ⟨some 15, _, _, _, _, _⟩) (v := _) rfl (by kernel_rfl) (by kernel_rfl) (by kernel_rfl) (fun _ _ _ h => h) (Or.inl ⟨by rfl, ?y5⟩) (Keeps.refl _) ?r5
  case y5 => (intro w' hSw; go_simp; try rfl)
  try simp only [Act.put, List.setIfInBounds_toArray, List.set_cons_zero, List.set_cons_succ]
  refine' wpAnyH_take (i := 6) (oi := ⟨some 16, _, _, _, _, _⟩) (v := _) rfl (by kernel_rfl) (by kernel_rfl) (by kernel_rfl) (fun _ _ _ h => h) (Or.inl ⟨by rfl, ?y6⟩) (Keeps.refl _) ?r6
  case y6 => (intro w' hSw; go_simp; try rfl)
  try simp only [Act.put, List.setIfInBounds_toArray, List.set_cons_zero, List.set_cons_succ]
  refine' wpAnyH_take (i := 7) (oi := ⟨some 17, _, _, _, _, _⟩) (v := _) rfl (by kernel_rfl) (by kernel_rfl) (by kernel_rfl) (fun _ _ _ h => h) (yieldsIf_load_mid (by rfl) 52 (.tmp 16) rfl h 1 rfl (V'.map uq) _ (fun w' hSw => Keeps.range ro hSw) Try.underlying52 rfl (by rw [info_vec, List.length_map, hV'])) (Keeps.refl _) ?r7
  try simp only [Act.put, List.setIfInBounds_toArray, List.set_cons_zero, List.set_cons_succ]
  refine' wpAnyH_take (i := 9) (oi := ⟨some 19, _, _, _, _, _⟩) (v := _) rfl (by kernel_rfl) (by kernel_rfl) (by kernel_rfl) (fun _ _ _ h => h) (Or.inl ⟨by rfl, ?y9⟩) (Keeps.refl _) ?r9
  case y9 => (intro w' hSw; have q0 := hSw _ _ kb; go_simp; try rfl)
  try simp only [Act.put, List.setIfInBounds_toArray, List.set_cons_zero, List.set_cons_succ]
  refine' wpAnyH_take (i := 10) (oi := ⟨some 20, _, _, _, _, _⟩) (v := _) rfl (by kernel_rfl) (by kernel_rfl) (by kernel_rfl) (fun _ _ _ h => h) (Or.inl ⟨by rfl, ?y10⟩) (Keeps.refl _) ?r10
  case y10 => (intro w' hSw; go_simp; try rfl)
  try simp only [Act.put, List.setIfInBounds_toArray, List.set_cons_zero, List.set_cons_succ]
  refine' wpAnyH_take (i := 11) (oi := ⟨some 21, _, _, _, _, _⟩) (v := _) rfl (by kernel_rfl) (by kernel_rfl) (by kernel_rfl) (fun _ _ _ h => h) (Or.inl ⟨by rfl, ?y11⟩) (Keeps.refl _) ?r11
  case y11 => (intro w' hSw; go_simp; try rfl)
  try simp only [Act.put, List.setIfInBounds_toArray, List.set_cons_zero, List.set_cons_succ]
  refine' wpAnyH_take (i := 12) (oi := ⟨some 22, _, _, _, _, _⟩) (v := _) rfl (by kernel_rfl) (by kernel_rfl) (by kernel_rfl) (fun _ _ _ h => h) (yieldsIf_load_mid (by rfl) 52 (.tmp 21) rfl (W0.heap.size) 1 rfl (zeros.map uq) _ (fun w' hSw => Keeps.range rc hSw) Try.underlying52 rfl (by rw [info_vec, List.length_map, hV])) (Keeps.refl _) ?r12
  try simp only [Act.put, List.setIfInBounds_toArray, List.set_cons_zero, List.set_cons_succ]
  refine held_one (i := 8) (by kernel_rfl) rfl (fun K hK => ?_)
  go_simp
  refine (greater_any zeros V' W2 hV hV').mono ?_
  rintro e W3 ⟨rfl, hb3⟩
  refine hK.out _ _ (Keeps.of_below hb3) (fun _ => ?_)
  clear hK K
  try simp only [Act.put, List.setIfInBounds_toArray, List.set_cons_zero, List.set_cons_succ]
  have hve : ∀ w, (Op.equalIn 10000 52 (.agg (uqs (maxV zeros V'))) (.agg (zeros.map uq).toArray)).run Try.prog w = .ok (decide (maxV zeros V' = zeros)) w := fun w => vec_eq (maxV zeros V') zeros (maxV_length zeros V') hV w
  refine' wpAnyH_take (i := 13) (oi := ⟨some 23, _, _, _, _, _⟩) (v := _) rfl (by kernel_rfl) (by kernel_rfl) (by kernel_rfl) (fun _ _ _ h => h) (Or.inl ⟨by rfl, ?y13⟩) (Keeps.of_below hb3) ?r13
  case y13 => (intro w' hSw; go_simp; try rfl)
  try simp only [Act.put, List.setIfInBounds_toArray, List.set_cons_zero, List.set_cons_succ]
  refine wpAnyH_done (by kernel_rfl) ?_ _
  clear hve rc ro
  have Cc3 := Cc.below hb3
  have Co3 := Co.below hb3
  have kb3 := (hb3.cell (World.block_lt_of_cell? W2 _ kb)).trans kb
  have Hb3 := Hb1.trans (hb3.mono Hb1.size)
  clear Cc Co kb Hb1 hb3
  have hcf := containsFunc_any u X' w.heap.size (W0.heap.size) (Value.slice none 0 0) zeros ([] : List Dt) W3 Co3.row.sd kb3 Cc3 (Nat.zero_le _) hl'
  have px := Co3.extra
  obtain ⟨Au, cu, rfl, _⟩ := Co3.row.sd
  obtain ⟨q, hq⟩ : ∃ q : Bool, q = decide (∃ d ∈ X', ¬ In zeros ([] : List Dt) d) := ⟨_, rfl⟩
  rw [← hq] at hcf
  have HQ := Lib.hid hq
  clear hq
  have hmf : ∀ (fn : Fn) (first cap : Array Value) (w : World), (Instr.makeFunc fn first cap).run Try.prog w = .ok (.func fn first cap) w := fun _ _ _ _ => rfl
  by_cases hmx : maxV zeros V' = zeros
  · rw [decide_eq_true hmx]
    have HX := Lib.hid hmx
    clear hmx Cc3 Co3 kb3
    go_wp2_with (go_at_call 45; refine hcf.mono ?_; rintro e W4 ⟨rfl, hg4⟩)
    go_ret
    refine ⟨ret_bool ?_, Hb3.trans (hg4.below.mono Hb3.size)⟩
    rw [HQ.out, covB_of HX.out]
  · rw [decide_eq_false hmx]
    have HX := Lib.hid hmx
    clear hmx Cc3 Co3 kb3 hcf
    go_wp2
    go_ret
    exact ⟨ret_bool (covB_not HX.out).symm, Hb3⟩
end Go.Proofs.Ytihegikilidofaa

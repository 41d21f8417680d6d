/-
  The walks of slices.IndexFunc and ContainsFunc at Covers' closure, and of Covers.
-/
import Derived.Test.YtoglhpcboonpeaaCtxNew
import Derived.Test.YtoglhpcboonpeaaCtxGreater
import Derived.Test.YtoglhpcboonpeaaCtxStill
namespace Go.Proofs.Ytoglhpcboonpeaa
open Go.RowKit
open CtxM
set_option linter.unusedVariables false
set_option linter.unusedSimpArgs false
set_option maxRecDepth 20000

theorem clos_any (bx g : Nat) (v : Value) (V : List Nat) (X : List Dt) (d : Dt) (w : World) (hb : w.cell? ⟨bx, 0, none⟩ = some (.pointer (some ⟨g, 0, none⟩))) (hc : Cx w g v V X) (hl : X.length ≤ 100000) :
    Calls Try.prog 46 #[.agg #[.int .i64 d.1, .int .u64 (d.2 : Int)], .pointer (some ⟨bx, 0, none⟩)] w fun e w' => e = .returned (.bool (!decide (In V X d))) ∧ Grw w w' := by
  have hh := has_any g v V X d (w.alloc (.cells #[.int .i64 d.1, .int .u64 (d.2 : Int)] 35)) (hc.below ((Below.refl _ _).alloc (Nat.le_refl _) _)) hl
  have hb1 : (w.alloc (.cells #[.int .i64 d.1, .int .u64 (d.2 : Int)] 35)).cell? ⟨bx, 0, none⟩ = some (.pointer (some ⟨g, 0, none⟩)) := (World.cell?_alloc_lt w _ _ (World.block_lt_of_cell? w _ hb)).trans hb
  generalize decide (In V X d) = b at hh
  go_enter Try.func46, Try.ntmps46
  go_wp2_with (go_at_call 16; refine hh.mono ?_; rintro e w' ⟨rfl, hg⟩)
  go_ret
  exact ⟨rfl, ((Grw.refl w).alloc _).trans hg⟩

set_option maxHeartbeats 1000000 in
theorem indexFunc_any (vL : Value) (L : List Dt) (bx g : Nat) (v : Value) (V : List Nat) (X : List Dt) (w : World) (hs : Sd w vL L) (hb : w.cell? ⟨bx, 0, none⟩ = some (.pointer (some ⟨g, 0, none⟩))) (hc : Cx w g v V X) (hl : X.length ≤ 100000) (hL : L.length ≤ 100000) :
    Calls Try.prog 59 #[vL, .func (.func 46) #[] #[.pointer (some ⟨bx, 0, none⟩)]] w fun e w' => (∃ r : Int, e = .returned (.int .i64 r) ∧ (0 ≤ r ↔ ∃ d ∈ L, ¬ In V X d)) ∧ Grw w w' := by
  have hcl := fun d W (hg : Grw w W) => clos_any bx g v V X d W ((hg.below.cell (World.block_lt_of_cell? w _ hb)).trans hb) (hc.below hg.below) hl
  have e46 : ∀ args w, (callFunc 46 args).run Try.prog w = .ok (.enter 46 args) w := enters_of Try.func46 (by kernel_rfl) rfl
  obtain ⟨A, c, rfl, hcc, ha⟩ := id hs
  have HS := Lib.hid hs
  have HA := Lib.hid ha
  clear ha hs hc hb
  go_enter Try.func59, Try.ntmps59
  go_wp2
  go_loopw [8] (fun z wr => ∃ i : Nat, z = .int .i64 (i : Int) ∧ i ≤ L.length ∧ (∀ k (h : k < L.length), k < i → In V X L[k]) ∧ Grw w wr) (fun z _ => L.length - (intOf z).toNat)
  case atStart => exact ⟨0, rfl, Nat.zero_le _, fun k _ h => absurd h (by omega), Grw.refl _⟩
  case round =>
    obtain ⟨i, rfl, hi, hall, hg⟩ := hrel
    by_cases hlt : i < L.length
    · have hs2 := HS.out.below hg.below
      obtain ⟨b, o, rfl, _⟩ := HA.out (by omega)
      obtain ⟨A2, c2, e2, _, ha2⟩ := hs2
      injection e2 with e3 e4 e5
      subst e3; subst e5
      obtain ⟨b2, o2, e6, hx⟩ := ha2 (by omega)
      injection e6 with e6
      injection e6 with e7 e8
      subst e7; subst e8
      have k0 := (hx i hlt).1
      have k1 := (hx i hlt).2
      obtain ⟨d, hd0⟩ : ∃ d, L[i] = d := ⟨_, rfl⟩
      rw [hd0] at k0 k1
      have HD := Lib.hid hd0
      clear hd0
      have hd := hcl d wr hg
      have HH := Lib.hid hall
      have HL2 := Lib.hid hlt
      by_cases hin : In V X d
      · rw [decide_eq_true hin] at hd
        have HI := Lib.hid hin
        clear hin hall ha2 hx hcl
        go_wp2_with (go_at_fn 46; refine hd.mono ?_; rintro e w2 ⟨rfl, hg2⟩)
        refine ⟨⟨i + 1, by go_num, by omega, fun k hk hki => ?_, hg.trans hg2⟩, by simp [intOf]; omega⟩
        rcases Nat.lt_or_ge k i with h | h
        · exact HH.out k hk h
        · obtain rfl : k = i := by omega
          rw [HD.out]; exact HI.out
      · rw [decide_eq_false hin] at hd
        have HI := Lib.hid hin
        clear hin hall ha2 hx hcl
        go_wp2_with (go_at_fn 46; refine hd.mono ?_; rintro e w2 ⟨rfl, hg2⟩)
        go_ret
        exact ⟨⟨_, rfl, ⟨fun _ => ⟨d, HD.out ▸ List.getElem_mem _, HI.out⟩, fun _ => by omega⟩⟩, hg.trans hg2⟩
    · have HH := Lib.hid hall
      obtain rfl : i = L.length := by omega
      clear hall
      go_wp2
      go_ret
      refine ⟨⟨_, rfl, ⟨fun h => by omega, fun ⟨d, hd, hn⟩ => ?_⟩⟩, hg⟩
      obtain ⟨k, hk, rfl⟩ := List.getElem_of_mem hd
      exact absurd (HH.out k hk hk) hn

theorem containsFunc_any (vL : Value) (L : List Dt) (bx g : Nat) (v : Value) (V : List Nat) (X : List Dt) (w : World) (hs : Sd w vL L) (hb : w.cell? ⟨bx, 0, none⟩ = some (.pointer (some ⟨g, 0, none⟩))) (hc : Cx w g v V X) (hl : X.length ≤ 100000) (hL : L.length ≤ 100000) :
    Calls Try.prog 45 #[vL, .func (.func 46) #[] #[.pointer (some ⟨bx, 0, none⟩)]] w fun e w' => e = .returned (.bool (decide (∃ d ∈ L, ¬ In V X d))) ∧ Grw w w' := by
  have hi := indexFunc_any vL L bx g v V X w hs hb hc hl hL
  have hsh := hs.shape
  clear hs hb hc
  obtain ⟨p, hp⟩ : ∃ p : Prop, p = ∃ d ∈ L, ¬ In V X d := ⟨_, rfl⟩
  have hdec : decide (∃ d ∈ L, ¬ In V X d) = @decide p (hp ▸ inferInstance) := by subst hp; rfl
  obtain ⟨q, hq⟩ : ∃ q : Bool, q = decide (∃ d ∈ L, ¬ In V X d) := ⟨_, rfl⟩
  have HQ := Lib.hid hq
  rw [← hq]
  clear hq hdec
  go_enter Try.func45, Try.ntmps45
  go_wp2_with (go_at_call 59; refine hi.mono ?_; rintro e w' ⟨⟨r, rfl, hr⟩, hg⟩; have HR := Lib.hid hr; clear hr)
  go_ret
  refine ⟨ret_bool ?_, hg⟩
  rw [HQ.out, Bool.eq_iff_iff, decide_eq_true_iff, decide_eq_true_iff]
  exact HR.out

/-- What Covers answers. -/
def covB (V : List Nat) (X : List Dt) (V' : List Nat) (X' : List Dt) : Bool := decide (maxV V V' = V) && !decide (∃ d ∈ X', ¬ In V X d)
theorem covB_of {V V' : List Nat} {X X' : List Dt} (h : maxV V V' = V) : covB V X V' X' = !decide (∃ d ∈ X', ¬ In V X d) := by rw [covB, decide_eq_true h, Bool.true_and]
theorem covB_not {V V' : List Nat} {X X' : List Dt} (h : ¬ maxV V V' = V) : covB V X V' X' = false := by rw [covB, decide_eq_false h, Bool.false_and]

set_option maxHeartbeats 4000000 in
theorem covers_any (g h : Nat) (v u : Value) (V V' : List Nat) (X X' : List Dt) (w : World) (hc : Cx w g v V X) (ho : Cx w h u V' X') (hl : X.length ≤ 100000) (hl' : X'.length ≤ 100000) :
    Calls Try.prog 23 #[.pointer (some ⟨g, 0, none⟩), .pointer (some ⟨h, 0, none⟩)] w fun e w' => e = .returned (.bool (covB V X V' X')) ∧ Below w.heap.size w w' := by
  have hfo : Try.prog.follows .mixedOrders = true := by kernel_rfl
  have hb1 : Below w.heap.size w (w.alloc (.cells #[.pointer (some ⟨g, 0, none⟩)] 24)) := (Below.refl _ _).alloc (Nat.le_refl _) _
  have Hc := hc.below hb1
  have Ho := ho.below hb1
  have Kb : (w.alloc (.cells #[.pointer (some ⟨g, 0, none⟩)] 24)).cell? ⟨w.heap.size, 0, none⟩ = some (.pointer (some ⟨g, 0, none⟩)) := by rw [(Blk.new w _ _).cell]; rfl
  have Hb := hb1
  have hn1 := none_at h true _ Ho.made
  have hn2 := none_at g true _ Hc.made
  have pb := Kb
  clear hc ho hb1
  go_enter Try.func23, Try.ntmps23
  go_wp2_with fail
  refine hn1.mono ?_
  rintro e w1 ⟨rfl, rfl⟩
  go_wp2_with fail
  refine hn2.mono ?_
  rintro e w1 ⟨rfl, rfl⟩
  go_wp2_with fail
  clear hn1 hn2 pb
  generalize w.alloc (.cells #[.pointer (some ⟨g, 0, none⟩)] 24) = W1 at Hc Ho Kb Hb ⊢
  refine held_begin hfo ?_
  have Cc : Cx W1.drew g v V X := Cx.below Hc (Below.refl _ _).drew
  have Co : Cx W1.drew h u V' X' := Cx.below Ho (Below.refl _ _).drew
  have kb : W1.drew.cell? ⟨w.heap.size, 0, none⟩ = some (.pointer (some ⟨g, 0, none⟩)) := Kb
  have Hb1 : Below w.heap.size w W1.drew := Hb.drew
  clear Hc Ho Kb Hb
  generalize W1.drew = W2 at Cc Co kb Hb1 ⊢
  have rc := Cc.range
  have ro := Co.range
  have hV := Cc.fit.len
  have hV' := Co.fit.len
  refine' wpAnyH_take (i := 0) (oi := ⟨some 10, _, _, _, _, _⟩) (v := _) rfl (by kernel_rfl) (by kernel_rfl) (by kernel_rfl) (fun _ _ _ h => h) (Or.inl ⟨by rfl, ?y0⟩) (Keeps.refl _) ?r0
  case y0 => (intro w' hSw; have q0 := hSw _ _ kb; go_simp; try rfl)
  try simp only [Act.put, List.setIfInBounds_toArray, List.set_cons_zero, List.set_cons_succ]
  refine' wpAnyH_take (i := 1) (oi := ⟨some 11, _, _, _, _, _⟩) (v := _) rfl (by kernel_rfl) (by kernel_rfl) (by kernel_rfl) (fun _ _ _ h => h) (Or.inl ⟨by rfl, ?y1⟩) (Keeps.refl _) ?r1
  case y1 => (intro w' hSw; go_simp; try rfl)
  try simp only [Act.put, List.setIfInBounds_toArray, List.set_cons_zero, List.set_cons_succ]
  refine' wpAnyH_take (i := 2) (oi := ⟨some 12, _, _, _, _, _⟩) (v := _) rfl (by kernel_rfl) (by kernel_rfl) (by kernel_rfl) (fun _ _ _ h => h) (Or.inl ⟨by rfl, ?y2⟩) (Keeps.refl _) ?r2
  case y2 => (intro w' hSw; go_simp; try rfl)
  try simp only [Act.put, List.setIfInBounds_toArray, List.set_cons_zero, List.set_cons_succ]
  refine' wpAnyH_take (i := 3) (oi := ⟨some 13, _, _, _, _, _⟩) (v := _) rfl (by kernel_rfl) (by kernel_rfl) (by kernel_rfl) (fun _ _ _ h => h) (yieldsIf_load_mid (by rfl) 52 (.tmp 12) rfl g 1 rfl (V.map uq) _ (fun w' hSw => Keeps.range rc hSw) Try.underlying52 rfl (by rw [info_vec, List.length_map, hV])) (Keeps.refl _) ?r3
  try simp only [Act.put, List.setIfInBounds_toArray, List.set_cons_zero, List.set_cons_succ]
  refine' wpAnyH_take (i := 4) (oi := ⟨some 14, _, _, _, _, _⟩) (v := _) rfl (by kernel_rfl) (by kernel_rfl) (by kernel_rfl) (fun _ _ _ h => h) (Or.inl ⟨by rfl, ?y4⟩) (Keeps.refl _) ?r4
  case y4 => (intro w' hSw; go_simp; try rfl)
  try simp only [Act.put, List.setIfInBounds_toArray, List.set_cons_zero, List.set_cons_succ]
  refine' wpAnyH_take (i := 5) (oi := ⟨some 15, _, _, _, _, _⟩) (v := _) rfl (by kernel_rfl) (by kernel_rfl) (by kernel_rfl) (fun _ _ _ h => h) (Or.inl ⟨by rfl, ?y5⟩) (Keeps.refl _) ?r5
  case y5 => (intro w' hSw; go_simp; try rfl)
  try simp only [Act.put, List.setIfInBounds_toArray, List.set_cons_zero, List.set_cons_succ]
  refine' wpAnyH_take (i := 6) (oi := ⟨some 16, _, _, _, _, _⟩) (v := _) rfl (by kernel_rfl) (by kernel_rfl) (by kernel_rfl) (fun _ _ _ h => h) (Or.inl ⟨by rfl, ?y6⟩) (Keeps.refl _) ?r6
  case y6 => (intro w' hSw; go_simp; try rfl)
  try simp only [Act.put, List.setIfInBounds_toArray, List.set_cons_zero, List.set_cons_succ]
  refine' wpAnyH_take (i := 7) (oi := ⟨some 17, _, _, _, _, _⟩) (v := _) rfl (by kernel_rfl) (by kernel_rfl) (by kernel_rfl) (fun _ _ _ h => h) (yieldsIf_load_mid (by rfl) 52 (.tmp 16) rfl h 1 rfl (V'.map uq) _ (fun w' hSw => Keeps.range ro hSw) Try.underlying52 rfl (by rw [info_vec, List.length_map, hV'])) (Keeps.refl _) ?r7
  try simp only [Act.put, List.setIfInBounds_toArray, List.set_cons_zero, List.set_cons_succ]
  refine' wpAnyH_take (i := 9) (oi := ⟨some 19, _, _, _, _, _⟩) (v := _) rfl (by kernel_rfl) (by kernel_rfl) (by kernel_rfl) (fun _ _ _ h => h) (Or.inl ⟨by rfl, ?y9⟩) (Keeps.refl _) ?r9
  case y9 => (intro w' hSw; have q0 := hSw _ _ kb; go_simp; try rfl)
  try simp only [Act.put, List.setIfInBounds_toArray, List.set_cons_zero, List.set_cons_succ]
  refine' wpAnyH_take (i := 10) (oi := ⟨some 20, _, _, _, _, _⟩) (v := _) rfl (by kernel_rfl) (by kernel_rfl) (by kernel_rfl) (fun _ _ _ h => h) (Or.inl ⟨by rfl, ?y10⟩) (Keeps.refl _) ?r10
  case y10 => (intro w' hSw; go_simp; try rfl)
  try simp only [Act.put, List.setIfInBounds_toArray, List.set_cons_zero, List.set_cons_succ]
  refine' wpAnyH_take (i := 11) (oi := ⟨some 21, _, _, _, _, _⟩) (v := _) rfl (by kernel_rfl) (by kernel_rfl) (by kernel_rfl) (fun _ _ _ h => h) (Or.inl ⟨by rfl, ?y11⟩) (Keeps.refl _) ?r11
  case y11 => (intro w' hSw; go_simp; try rfl)
  try simp only [Act.put, List.setIfInBounds_toArray, List.set_cons_zero, List.set_cons_succ]
  refine' wpAnyH_take (i := 12) (oi := ⟨some 22, _, _, _, _, _⟩) (v := _) rfl (by kernel_rfl) (by kernel_rfl) (by kernel_rfl) (fun _ _ _ h => h) (yieldsIf_load_mid (by rfl) 52 (.tmp 21) rfl g 1 rfl (V.map uq) _ (fun w' hSw => Keeps.range rc hSw) Try.underlying52 rfl (by rw [info_vec, List.length_map, hV])) (Keeps.refl _) ?r12
  try simp only [Act.put, List.setIfInBounds_toArray, List.set_cons_zero, List.set_cons_succ]
  refine held_one (i := 8) (by kernel_rfl) rfl (fun K hK => ?_)
  go_simp
  refine (greater_any V V' W2 hV hV').mono ?_
  rintro e W3 ⟨rfl, hb3⟩
  refine hK.out _ _ (Keeps.of_below hb3) (fun _ => ?_)
  clear hK K
  try simp only [Act.put, List.setIfInBounds_toArray, List.set_cons_zero, List.set_cons_succ]
  have hve : ∀ w, (Op.equalIn 10000 52 (.agg (uqs (maxV V V'))) (.agg (V.map uq).toArray)).run Try.prog w = .ok (decide (maxV V V' = V)) w := fun w => vec_eq (maxV V V') V (maxV_length V V') hV w
  refine' wpAnyH_take (i := 13) (oi := ⟨some 23, _, _, _, _, _⟩) (v := _) rfl (by kernel_rfl) (by kernel_rfl) (by kernel_rfl) (fun _ _ _ h => h) (Or.inl ⟨by rfl, ?y13⟩) (Keeps.of_below hb3) ?r13
  case y13 => (intro w' hSw; go_simp; try rfl)
  try simp only [Act.put, List.setIfInBounds_toArray, List.set_cons_zero, List.set_cons_succ]
  refine wpAnyH_done (by kernel_rfl) ?_ _
  clear hve rc ro
  have Cc3 := Cc.below hb3
  have Co3 := Co.below hb3
  have kb3 := (hb3.cell (World.block_lt_of_cell? W2 _ kb)).trans kb
  have Hb3 := Hb1.trans (hb3.mono Hb1.size)
  clear Cc Co kb Hb1 hb3
  have hcf := containsFunc_any u X' w.heap.size g v V X W3 Co3.row.sd kb3 Cc3 hl hl'
  have px := Co3.extra
  obtain ⟨Au, cu, rfl, _⟩ := Co3.row.sd
  obtain ⟨q, hq⟩ : ∃ q : Bool, q = decide (∃ d ∈ X', ¬ In V X d) := ⟨_, rfl⟩
  rw [← hq] at hcf
  have HQ := Lib.hid hq
  clear hq
  have hmf : ∀ (fn : Fn) (first cap : Array Value) (w : World), (Instr.makeFunc fn first cap).run Try.prog w = .ok (.func fn first cap) w := fun _ _ _ _ => rfl
  by_cases hmx : maxV V V' = V
  · rw [decide_eq_true hmx]
    have HX := Lib.hid hmx
    clear hmx Cc3 Co3 kb3
    go_wp2_with (go_at_call 45; refine hcf.mono ?_; rintro e W4 ⟨rfl, hg4⟩)
    go_ret
    refine ⟨ret_bool ?_, Hb3.trans (hg4.below.mono Hb3.size)⟩
    rw [HQ.out, covB_of HX.out]
  · rw [decide_eq_false hmx]
    have HX := Lib.hid hmx
    clear hmx Cc3 Co3 kb3 hcf
    go_wp2
    go_ret
    exact ⟨ret_bool (covB_not HX.out).symm, Hb3⟩
end Go.Proofs.Ytoglhpcboonpeaa

/-
  The walk of the program's Of.
-/
import Derived.Test.YtoglhpcboonpeaaCtxFit
import Derived.Test.YtoglhpcboonpeaaCtxMax
import Derived.Test.YtoglhpcboonpeaaCtxCopy
namespace Go.Proofs.Ytoglhpcboonpeaa
open Go.RowKit
open CtxM
set_option linter.unusedVariables false
set_option linter.unusedSimpArgs false
set_option maxRecDepth 20000

/-- May these be a context? -/
def OfOk (V : List Nat) (X : List Dt) : Prop := (∀ n ∈ V, n ≤ top) ∧ FitX V X
theorem OfOk.fit {V : List Nat} {X : List Dt} (hV : V.length = 16) (h : OfOk V X) : Fit V X := fitX_fit hV h.1 h.2
theorem fit_ok {V : List Nat} {X : List Dt} (h : Fit V X) : OfOk V X := ⟨h.le, fit_fitX h⟩
theorem Sd.row {w : World} {base : Nat} {v : Value} {X : List Dt} (h : OwnD w base v X) : Sd w v X := h.sd

section
variable {V : List Nat} {X : List Dt} {v : Value} {w : World}
set_option maxHeartbeats 4000000 in
theorem ofP_big (hV : V.length = 16) (ho : OwnD w 0 v X) (hb : ¬ ∀ n ∈ V, n ≤ top) :
    Calls Try.prog 31 #[.agg (uqs V), v] w fun e w' => e = .returned (.tuple #[.pointer none, .int .i64 2]) ∧ Below w.heap.size w w' := by
  obtain ⟨A, c, rfl, _⟩ := ho.sd
  have hB := Blk.new w 52 (uqs V)
  have hm := max_any w.heap.size V _ hB hV
  have hgt : 4611686018427387904 < maxL V := by
    rcases Nat.lt_or_ge top (maxL V) with h | h
    · exact h
    · exact absurd ((maxL_le V top).1 h) hb
  obtain ⟨m, hmm⟩ : ∃ m, m = maxL V := ⟨_, rfl⟩
  rw [← hmm] at hm hgt
  have hdec : decide ((4611686018427387904 : Int) < (m : Int)) = true := decide_eq_true (by omega)
  clear hmm hb ho hgt
  go_enter Try.func31, Try.ntmps31
  go_wp2_with fail
  refine hm.mono ?_
  rintro e w1 ⟨rfl, rfl⟩
  clear hm hB
  go_wp2
  go_ret2
  exact ⟨rfl, (Below.refl _ _).alloc (Nat.le_refl _) _⟩

theorem range_vec {w : World} {g : Nat} {V : List Nat} (h : Blk w g 52 (uqs V)) : w.rangeAt g 0 (V.map uq) := by
  intro j u hu
  rw [Nat.zero_add, h.cell]
  simpa [uqs] using hu
theorem wpList_load_row_g {P : Program} {ops : Array Oper} {rest : List Oper} {o : Oper} {a : Act} {w : World} {Q : Exit → Act → World → Prop} (hw : Region.wanted o (yielded ops a.tmps) = true) (ty : TypeId) (x : Operand) (ho : o.op = .load ty x)
    (g : Nat) (hx : a.eval x = .pointer (some ⟨g, 0, none⟩)) (t : TypeId) (cs : Array Value) (fr : Nat × Nat) (d : TypeDesc) (hg : w.heap[g]? = some (.cells cs t fr))
    (hu : P.underlying ty = some d) (hd : (match d with | .struct _ | .array _ _ => true | _ => false) = true) (hi : (P.info? ty).map (·.size) = some cs.size)
    (h : wpList P ops Q rest (a.put o.dst (.agg cs)) w) : wpList P ops Q (o :: rest) a w :=
  wpList_step fun K hK => by rw [if_pos hw]; exact wp_load_row ty x ho g hx t cs fr d hg hu hd hi (hK _ _ h)

set_option maxHeartbeats 4000000 in
theorem ofP_unfit (hV : V.length = 16) (ho : OwnD w 0 v X) (hle : ∀ n ∈ V, n ≤ top) (hb : ¬ FitX V X) (hl : X.length ≤ 100000) :
    Calls Try.prog 31 #[.agg (uqs V), v] w fun e w' => e = .returned (.tuple #[.pointer none, .int .i64 2]) ∧ Below w.heap.size w w' := by
  have hB := Blk.new w 52 (uqs V)
  have hm := max_any w.heap.size V _ hB hV
  have hft := fit_any V v X (w.alloc (.cells (uqs V) 52)) hV hle (ho.alloc _).sd hl
  have hgt : maxL V ≤ 4611686018427387904 := (maxL_le V top).2 hle
  have hinf := uqs_info hV
  obtain ⟨m, hmm⟩ : ∃ m, m = maxL V := ⟨_, rfl⟩
  rw [← hmm] at hm hgt
  have hdec : decide ((4611686018427387904 : Int) < (m : Int)) = false := decide_eq_false (by omega)
  obtain ⟨A, c, rfl, _⟩ := ho.sd
  have HB := Lib.hid hb
  have hb1 : Below w.heap.size w (w.alloc (.cells (uqs V) 52)) := (Below.refl _ _).alloc (Nat.le_refl _) _
  clear hmm hb ho hgt hle hl
  go_enter Try.func31, Try.ntmps31
  go_wp2_with fail
  refine hm.mono ?_
  rintro e w1 ⟨rfl, rfl⟩
  clear hm
  go_wp2_with (refine wpList_load_row_g rfl 52 (.tmp 2) rfl w.heap.size rfl 52 (uqs V) (0, 0) _ hB Try.underlying52 rfl hinf ?_)
  refine hft.mono ?_
  rintro e w2 ⟨⟨q, rfl, hq⟩, hb2⟩
  obtain rfl : q = false := by
    cases q
    · rfl
    · exact absurd (hq.1 rfl) HB.out
  clear hft hq hB
  go_wp2
  go_ret2
  exact ⟨rfl, hb1.trans (hb2.mono (by simp))⟩

set_option maxHeartbeats 4000000 in
theorem ofP_full (hV : V.length = 16) (ho : OwnD w 0 v X) (hok : OfOk V X) (hf : 4096 < X.length) (hl : X.length ≤ 100000) :
    Calls Try.prog 31 #[.agg (uqs V), v] w fun e w' => e = .returned (.tuple #[.pointer none, .int .i64 5]) ∧ Below w.heap.size w w' := by
  obtain ⟨hle, hb⟩ := hok
  have hB := Blk.new w 52 (uqs V)
  have hm := max_any w.heap.size V _ hB hV
  have hft := fit_any V v X (w.alloc (.cells (uqs V) 52)) hV hle (ho.alloc _).sd hl
  have hgt : maxL V ≤ 4611686018427387904 := (maxL_le V top).2 hle
  have hinf := uqs_info hV
  obtain ⟨m, hmm⟩ : ∃ m, m = maxL V := ⟨_, rfl⟩
  rw [← hmm] at hm hgt
  have hdec : decide ((4611686018427387904 : Int) < (m : Int)) = false := decide_eq_false (by omega)
  obtain ⟨A, c, rfl, _⟩ := ho.sd
  have HB := Lib.hid hb
  have hb1 : Below w.heap.size w (w.alloc (.cells (uqs V) 52)) := (Below.refl _ _).alloc (Nat.le_refl _) _
  have hlen : decide ((4096 : Int) < (X.length : Int)) = true := decide_eq_true (by omega)
  clear hmm hb ho hgt hle hl hf
  go_enter Try.func31, Try.ntmps31
  go_wp2_with fail
  refine hm.mono ?_
  rintro e w1 ⟨rfl, rfl⟩
  clear hm
  go_wp2_with (refine wpList_load_row_g rfl 52 (.tmp 2) rfl w.heap.size rfl 52 (uqs V) (0, 0) _ hB Try.underlying52 rfl hinf ?_)
  refine hft.mono ?_
  rintro e w2 ⟨⟨q, rfl, hq⟩, hb2⟩
  obtain rfl : q = true := hq.2 HB.out
  clear hft hq hB
  go_wp2
  go_ret2
  exact ⟨rfl, hb1.trans (hb2.mono (by simp))⟩

set_option maxHeartbeats 4000000 in
theorem ofP_ok (hV : V.length = 16) (ho : OwnD w 0 v X) (hok : OfOk V X) (hl : X.length ≤ 4096) :
    Calls Try.prog 31 #[.agg (uqs V), v] w fun e w' => ∃ h v', e = .returned (.tuple #[.pointer (some ⟨h, 0, none⟩), .int .i64 0]) ∧ Cx w' h v' V X ∧ (∀ j, Foot h v' j → w.heap.size ≤ j) ∧ Below w.heap.size w w' := by
  have hfo : Try.prog.follows .mixedOrders = true := by kernel_rfl
  have hfit := OfOk.fit hV hok
  obtain ⟨hle, hb⟩ := hok
  have hB := Blk.new w 52 (uqs V)
  have hm := max_any w.heap.size V _ hB hV
  have hft := fit_any V v X (w.alloc (.cells (uqs V) 52)) hV hle (ho.alloc _).sd (by omega)
  have hgt : maxL V ≤ 4611686018427387904 := (maxL_le V top).2 hle
  have hinf := uqs_info hV
  obtain ⟨m, hmm⟩ : ∃ m, m = maxL V := ⟨_, rfl⟩
  rw [← hmm] at hm hgt
  have hdec : decide ((4611686018427387904 : Int) < (m : Int)) = false := decide_eq_false (by omega)
  have HO := Lib.hid ho
  have HF := Lib.hid hfit
  have HV := Lib.hid hV
  obtain ⟨A, c, rfl, _⟩ := ho.sd
  have HB := Lib.hid hb
  have hb1 : Below w.heap.size w (w.alloc (.cells (uqs V) 52)) := (Below.refl _ _).alloc (Nat.le_refl _) _
  have hlen : decide ((4096 : Int) < (X.length : Int)) = false := decide_eq_false (by omega)
  have HL := Lib.hid hl
  clear hmm hb ho hgt hle hl hfit hV
  go_enter Try.func31, Try.ntmps31
  go_wp2_with fail
  refine hm.mono ?_
  rintro e w1 ⟨rfl, rfl⟩
  clear hm
  go_wp2_with (refine wpList_load_row_g rfl 52 (.tmp 2) rfl w.heap.size rfl 52 (uqs V) (0, 0) _ hB Try.underlying52 rfl hinf ?_)
  refine hft.mono ?_
  rintro e w2 ⟨⟨q, rfl, hq⟩, hb2⟩
  obtain rfl : q = true := hq.2 HB.out
  have hB2 := hB.below hb2 hB.lt
  have hz2 : w.heap.size + 1 ≤ w2.heap.size := by have := hb2.size; simpa using this
  have hbb : Below w.heap.size w w2 := hb1.trans (hb2.mono (by simp))
  have HO2 := Lib.hid (HO.out.below hbb)
  clear hft hq hB hb1 hb2 HO HB
  go_wp2_with fail
  refine held_begin hfo ?_
  have hB3 : Blk w2.drew w.heap.size 52 (uqs V) := hB2.drew
  have ho3 : OwnD w2.drew 0 (.slice A X.length c) X := HO2.out.drew
  have hbb3 : Below w.heap.size w w2.drew := hbb.drew
  have hsz : w.heap.size + 1 ≤ w2.drew.heap.size := hz2
  clear hB2 HO2 hbb hz2
  generalize w2.drew = W2 at hB3 ho3 hbb3 hsz ⊢
  have rc := range_vec hB3
  have hV := HV.out
  have hcl := clone_any _ X W2 ho3 (by have := HL.out; omega)
  clear ho3 hB3
  refine' wpAnyH_take (i := 0) (oi := ⟨some 20, _, _, _, _, _⟩) (v := _) rfl (by kernel_rfl) (by kernel_rfl) (by kernel_rfl) (fun _ _ _ h => h) (yieldsIf_load_mid (by rfl) 52 (.tmp 2) rfl w.heap.size 0 rfl (V.map uq) _ (fun w' hSw => Keeps.range rc hSw) Try.underlying52 rfl (by rw [info_vec, List.length_map, hV])) (Keeps.refl _) ?ry0
  try simp only [Act.put, List.setIfInBounds_toArray, List.set_cons_zero, List.set_cons_succ]
  refine' wpAnyH_take (i := 1) (oi := ⟨some 21, _, _, _, _, _⟩) (v := _) rfl (by kernel_rfl) (by kernel_rfl) (by kernel_rfl) (fun _ _ _ h => h) (Or.inl ⟨by rfl, ?y1⟩) (Keeps.refl _) ?ry1
  case y1 => (intro w' hSw; go_simp; try rfl)
  try simp only [Act.put, List.setIfInBounds_toArray, List.set_cons_zero, List.set_cons_succ]
  refine held_one (i := 2) (by kernel_rfl) rfl (fun K hK => ?_)
  go_simp
  refine hcl.mono ?_
  rintro e W3 ⟨v', rfl, ho, hb⟩
  have kS := Keeps.of_below hb
  obtain ⟨A', c', rfl, _⟩ := id ho.sd
  refine hK.out _ _ kS (fun _ => ?_)
  clear hK K
  try simp only [Act.put, List.setIfInBounds_toArray, List.set_cons_zero, List.set_cons_succ]
  refine' wpAnyH_take (i := 3) (oi := ⟨some 23, _, _, _, _, _⟩) (v := (.agg (cxc V (.slice A' X.length c')))) rfl (by kernel_rfl) (by kernel_rfl) (by kernel_rfl) (fun _ _ _ h => h) (Or.inl ⟨by rfl, ?y3⟩) kS ?ry3
  case y3 => (intro w' hSw; clear rc hcl hinf; obtain ⟨a0, a1, a2, a3, a4, a5, a6, a7, a8, a9, a10, a11, a12, a13, a14, a15, rfl⟩ := list16 hV; go_simp; try rfl)
  try simp only [Act.put, List.setIfInBounds_toArray, List.set_cons_zero, List.set_cons_succ]
  refine held_one (i := 4) (by kernel_rfl) rfl (fun K hK => ?_)
  go_simp
  have kS2 := kS.trans (Keeps.of_below ((Below.refl W3.heap.size W3).alloc (Nat.le_refl _) (.cells (cxc V (.slice A' X.length c')) 62)))
  have e1 : (Value.bool true :: (V.map uq ++ [Value.slice A' X.length c'])).toArray = cxc V (.slice A' X.length c') := rfl
  refine hK.out _ _ kS2 (fun _ => ?_)
  clear hK K
  try simp only [Act.put, List.setIfInBounds_toArray, List.set_cons_zero, List.set_cons_succ]
  refine' wpAnyH_take (i := 5) (oi := ⟨some 4, _, _, _, _, _⟩) (v := _) rfl (by kernel_rfl) (by kernel_rfl) (by kernel_rfl) (fun _ _ _ h => h) (Or.inl ⟨by rfl, ?y5⟩) kS2 ?ry5
  case y5 => (intro w' hSw; go_simp; try rfl)
  try simp only [Act.put, List.setIfInBounds_toArray, List.set_cons_zero, List.set_cons_succ]
  refine' wpAnyH_take (i := 6) (oi := ⟨some 5, _, _, _, _, _⟩) (v := _) rfl (by kernel_rfl) (by kernel_rfl) (by kernel_rfl) (fun _ _ _ h => h) (Or.inl ⟨by rfl, ?y6⟩) kS2 ?ry6
  case y6 => (intro w' hSw; go_simp; try rfl)
  try simp only [Act.put, List.setIfInBounds_toArray, List.set_cons_zero, List.set_cons_succ]
  refine wpAnyH_done (by kernel_rfl) ?_ _
  go_wp2
  go_ret2
  refine ⟨W3.heap.size, .slice A' X.length c', rfl, cx_new W3 V X _ (ho.mono (Nat.zero_le _)) HF.out, ?_, ?_⟩
  · rintro j (rfl | hj)
    · have := hb.size; have := hbb3.size; omega
    · have := (ho.lt j hj).1; have := hbb3.size; omega
  · exact (hbb3.trans (hb.mono (by omega))).alloc (by have := hb.size; have := hbb3.size; omega) _
end
end Go.Proofs.Ytoglhpcboonpeaa

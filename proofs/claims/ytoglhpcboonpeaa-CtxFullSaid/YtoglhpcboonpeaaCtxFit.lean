/-
  The walks of the program's fit, and of slices.Max at a vector.
-/
import Derived.Test.YtoglhpcboonpeaaCtxRefN
import Derived.BigQuiet
import Derived.Shelf.SlSortCmp.QuietGrown
import Derived.Test.YtoglhpcboonpeaaCtxAdd
namespace Go.Proofs.Ytoglhpcboonpeaa
open Go.RowKit
open CtxM
set_option linter.unusedVariables false
set_option linter.unusedSimpArgs false
set_option maxRecDepth 20000

/-- Exceptions that may be beyond V, dot by dot. -/
def FitAt (V : List Nat) (X : List Dt) (i : Nat) : Prop := ∀ (h : i < X.length), May X[i] ∧ at_ V X[i].1 + 1 < X[i].2 ∧ (0 < i → Lt (X[i - 1]'(by omega)) X[i])
def FitX (V : List Nat) (X : List Dt) : Prop := ∀ i, FitAt V X i
theorem fitX_fit {V : List Nat} {X : List Dt} (hV : V.length = 16) (hle : ∀ n ∈ V, n ≤ top) (h : FitX V X) : Fit V X := by
  have hcon : ∀ (j i : Nat) (hj : j < X.length) (hij : i < j), Lt (X[i]'(by omega)) X[j] := by
    intro j
    induction j with
    | zero => intro i hj hij; omega
    | succ j ih =>
      intro i hj hij
      have h1 := (h (j + 1) hj).2.2 (by omega)
      rw [show X[j + 1 - 1]'(by omega) = X[j] from rfl] at h1
      rcases Nat.lt_or_ge i j with hlt | hge
      · exact (ih i (by omega) hlt).trans h1
      · have : i = j := by omega
        subst this
        exact h1
  refine ⟨hV, hle, ?_, fun d hd => ?_, fun d hd => ?_⟩
  · exact List.pairwise_iff_getElem.2 fun i j hi hj hij => hcon j i hj hij
  · obtain ⟨i, hi, rfl⟩ := List.getElem_of_mem hd
    exact (h i hi).1
  · obtain ⟨i, hi, rfl⟩ := List.getElem_of_mem hd
    exact (h i hi).2.1
theorem fit_fitX {V : List Nat} {X : List Dt} (h : Fit V X) : FitX V X := fun i hi =>
  ⟨h.may _ (List.getElem_mem hi), h.beyond _ (List.getElem_mem hi), fun h0 => List.pairwise_iff_getElem.1 h.rise (i - 1) i (by omega) hi (by omega)⟩
theorem vec_cell {w : World} {b : Nat} {V : List Nat} (h : Blk w b 52 (uqs V)) (hV : V.length = 16) (k : Nat) (hk : k < 16) : w.cell? ⟨b, k, none⟩ = some (.int .u64 (at_ V ((k : Int) + 1) : Int)) := by
  rw [h.cell, uqs_get V k (by omega)]
  unfold at_
  rw [show ((k : Int) + 1 - 1).toNat = k by omega]

def FitEnd (V : List Nat) (X : List Dt) (w : World) (e : Ending) (w' : World) : Prop := (∃ q : Bool, e = .returned (.bool q) ∧ (q = true ↔ FitX V X)) ∧ Below w.heap.size w w'

set_option maxHeartbeats 4000000 in
theorem fit_any (V : List Nat) (v : Value) (X : List Dt) (w : World) (hV : V.length = 16) (hle : ∀ n ∈ V, n ≤ top) (hs : Sd w v X) (hl : X.length ≤ 100000) :
    Calls Try.prog 53 #[.agg (uqs V), v] w (FitEnd V X w) := by
  have hfo : Try.prog.follows .mixedOrders = true := by kernel_rfl
  have HS := Lib.hid hs
  have HLE := Lib.hid hle
  obtain ⟨A, c, rfl, _, _⟩ := hs
  clear hle
  have hB0 := Blk.new w 52 (uqs V)
  have hb0 : Below w.heap.size w (w.alloc (.cells (uqs V) 52)) := (Below.refl _ _).alloc (Nat.le_refl _) _
  go_enter Try.func53, Try.ntmps53
  go_wp2
  go_loopw [9] (fun z wr => ∃ i : Nat, z = .int .i64 (i : Int) ∧ i ≤ X.length ∧ (∀ k, k < i → FitAt V X k) ∧ Blk wr w.heap.size 52 (uqs V) ∧ Below w.heap.size w wr) (fun z _ => X.length - (intOf z).toNat)
  case atStart => exact ⟨0, rfl, Nat.zero_le _, fun k h => absurd h (by omega), hB0, hb0⟩
  case round =>
    clear hB0 hb0
    obtain ⟨i, rfl, hi, hall, hB, hb⟩ := hrel
    have HALL := Lib.hid hall
    clear hall
    by_cases hlt : i < X.length
    · obtain ⟨d, hd⟩ : ∃ d, X[i] = d := ⟨_, rfl⟩
      obtain ⟨b, o, rfl, k0, k1⟩ := (HS.out.below hb).at_ i hlt d hd
      have hil : (i : Int) < (X.length : Int) := by omega
      have HD := Lib.hid hd
      have HLT := Lib.hid hlt
      have hwlt := hB.lt
      clear hd
      go_wp2_with fail
      have hBd := Blk.new wr 35 #[.int .i64 d.1, .int .u64 (d.2 : Int)]
      have hBv := hB.alloc (.cells #[.int .i64 d.1, .int .u64 (d.2 : Int)] 35)
      have hb1 : Below w.heap.size w (wr.alloc (.cells #[.int .i64 d.1, .int .u64 (d.2 : Int)] 35)) := hb.alloc hb.size _
      have hwz := hb.size
      clear k0 k1 hB hb
      generalize wr.heap.size = n0 at hBd hwz hwlt ⊢
      generalize (wr.alloc (.cells #[.int .i64 d.1, .int .u64 (d.2 : Int)] 35)) = W1 at hBd hBv hb1 ⊢
      have c1 := fun n os => may_any d (Go.Sort.grow (W1.drewN n) os)
      have g0 : W1.cell? ⟨n0, 0, none⟩ = some (.int .i64 d.1) := by rw [hBd.cell]; rfl
      have g1 : W1.cell? ⟨n0, 1, none⟩ = some (.int .u64 (d.2 : Int)) := by rw [hBd.cell]; rfl
      have hz1 := hb1.size
      have q0 : ∀ n os, (Go.Sort.grow (W1.drewN n) os).cell? ⟨n0, 0, none⟩ = some (.int .i64 d.1) := cell_grown hBd.lt g0
      have q1 : ∀ n os, (Go.Sort.grow (W1.drewN n) os).cell? ⟨n0, 1, none⟩ = some (.int .u64 (d.2 : Int)) := cell_grown hBd.lt g1
      by_cases hM : May d
      · rw [decide_eq_true hM] at c1
        have HM := Lib.hid hM
        obtain ⟨k, hk⟩ : ∃ k : Nat, d.1 = (k : Int) + 1 := ⟨(d.1 - 1).toNat, by have := hM.1; omega⟩
        have hk16 : k < 16 := by have := hM.2.1; omega
        have hat := at_le HLE.out ((k : Int) + 1)
        have hv := vec_cell hBv hV k hk16
        have q2 : ∀ n os, (Go.Sort.grow (W1.drewN n) os).cell? ⟨w.heap.size, k, none⟩ = some (.int .u64 (at_ V ((k : Int) + 1) : Int)) := cell_grown hBv.lt hv
        obtain ⟨m, hm⟩ : ∃ m, m = at_ V ((k : Int) + 1) := ⟨_, rfl⟩
        rw [← hm] at hat q2
        have HMM := Lib.hid hm
        have HK := Lib.hid hk
        have hw1 : IntKind.u64.wrap ((m : Int) + 1) = (m : Int) + 1 := by rw [IntKind.wrap_u64]; unfold top at hat; omega
        have hwk : IntKind.i64.wrap (k : Int) = (k : Int) := by rw [IntKind.wrap_i64]; omega
        have hk0 : (0 : Int) ≤ (k : Int) := by omega
        have hk1 : (k : Int) < 16 := by omega
        rw [hk] at c1 q0 g0 ⊢
        clear hM hv hk hm hat
        by_cases hcnt : d.2 ≤ m + 1
        · have hci : decide ((d.2 : Int) ≤ (m : Int) + 1) = true := decide_eq_true (by omega)
          have HC := Lib.hid hcnt
          clear hcnt
          go_quiet_grown (first | (go_at_call 13; refine Calls.grown_of (c1 _ _)))
          have hg2 : Grw W1 (Go.Sort.grow (W1.drewN nq) osq) := ⟨nq, osq, rfl⟩
          have hb2 := hb1.trans (hg2.below.mono hz1)
          clear c1 q0 q1 q2
          go_wp2
          go_ret
          refine ⟨⟨false, rfl, ⟨fun h => (by cases h), fun h => ?_⟩⟩, hb2⟩
          have h1 := (h i HLT.out).2.1
          rw [HD.out, HK.out, ← HMM.out] at h1
          have := HC.out; omega
        · have hci : decide ((d.2 : Int) ≤ (m : Int) + 1) = false := decide_eq_false (by omega)
          have HC := Lib.hid hcnt
          clear hcnt
          go_quiet_grown (first | (go_at_call 13; refine Calls.grown_of (c1 _ _)))
          have hg2 : Grw W1 (Go.Sort.grow (W1.drewN nq) osq) := ⟨nq, osq, rfl⟩
          have hb2 := hb1.trans (hg2.below.mono hz1)
          have hBd2 := hBd.below hg2.below hBd.lt
          have hBv2 := hBv.below hg2.below hBv.lt
          clear c1 q0 q1 q2 g0 g1
          go_wp2_with fail
          by_cases hpos : 0 < i
          · obtain ⟨j, hi1⟩ : ∃ j, j + 1 = i := ⟨i - 1, by omega⟩
            have hjl : j < X.length := by have := HLT.out; omega
            obtain ⟨x, hx⟩ : ∃ x, X[j] = x := ⟨_, rfl⟩
            obtain ⟨bb, oo, ee, k2, k3⟩ := (HS.out.below hb2).at_ j hjl x hx
            injection ee with ee
            injection ee with f1 f2
            subst f1; subst f2
            have hz2 := hb2.size
            have HX := Lib.hid hx
            clear hx
            generalize Go.Sort.grow (W1.drewN nq) osq = W2 at hg2 hb2 hBd2 hBv2 k2 k3 hz2 ⊢
            have g0 : W2.cell? ⟨n0, 0, none⟩ = some (.int .i64 ((k : Int) + 1)) := by rw [hBd2.cell, ← HK.out]; rfl
            have g1 : W2.cell? ⟨n0, 1, none⟩ = some (.int .u64 (d.2 : Int)) := by rw [hBd2.cell]; rfl
            have q0 : ∀ n os, (Go.Sort.grow (W2.drewN n) os).cell? ⟨n0, 0, none⟩ = some (.int .i64 ((k : Int) + 1)) := cell_grown hBd2.lt g0
            have q1 : ∀ n os, (Go.Sort.grow (W2.drewN n) os).cell? ⟨n0, 1, none⟩ = some (.int .u64 (d.2 : Int)) := cell_grown hBd2.lt g1
            have q2 : ∀ n os, (Go.Sort.grow (W2.drewN n) os).cell? ⟨b, o + j * 2, none⟩ = some (.int .i64 x.1) := cell_grown (World.block_lt_of_cell? W2 _ k2) k2
            have q3 : ∀ n os, (Go.Sort.grow (W2.drewN n) os).cell? ⟨b, o + j * 2 + 1, none⟩ = some (.int .u64 (x.2 : Int)) := cell_grown (World.block_lt_of_cell? W2 _ k3) k3
            have c3 := fun n os => less_any x d (Go.Sort.grow (W2.drewN n) os)
            rw [HK.out] at c3
            obtain ⟨p2, hp2⟩ : ∃ p, p = decide (Lt x d) := ⟨_, rfl⟩
            rw [← hp2] at c3
            have HP := Lib.hid hp2
            clear k2 k3 g0 g1 hp2
            have hw3 : (0 : Int) ≤ (j : Int) := by omega
            have hw4 : (j : Int) < (X.length : Int) := by omega
            have hw1' : IntKind.i64.wrap ((i : Int) - 1) = (j : Int) := by rw [IntKind.wrap_i64] <;> omega
            have hw5 : (0 : Int) < (i : Int) := by omega
            have hw6 : 0 < i := by omega
            have hw7 : decide ((0 : Int) < (i : Int)) = true := decide_eq_true hw5
            have hw8 : decide (0 < i) = true := decide_eq_true hw6
            have HI1 := Lib.hid hi1
            clear hi1 hpos
            cases p2
            · go_quiet_grown (first | (go_at_call 18; refine Calls.grown_of (c3 _ _)))
              have hg3 : Grw W2 (Go.Sort.grow (W2.drewN nq) osq) := ⟨nq, osq, rfl⟩
              have hb3 := hb2.trans (hg3.below.mono hz2)
              clear c3 q0 q1 q2 q3
              go_wp2
              go_ret
              refine ⟨⟨false, rfl, ⟨fun h => (by cases h), fun h => ?_⟩⟩, hb3⟩
              have h1 := (h i HLT.out).2.2 hw6
              rw [HD.out, show X[i - 1]'(by omega) = X[j] by congr 1; have := HI1.out; omega, HX.out] at h1
              exact absurd h1 (of_decide_eq_false HP.out.symm)
            · go_quiet_grown (first | (go_at_call 18; refine Calls.grown_of (c3 _ _)))
              have hg3 : Grw W2 (Go.Sort.grow (W2.drewN nq) osq) := ⟨nq, osq, rfl⟩
              have hb3 := hb2.trans (hg3.below.mono hz2)
              have hBv3 := hBv2.below hg3.below hBv2.lt
              clear c3 q0 q1 q2 q3
              go_wp2
              refine ⟨⟨i + 1, by go_num, HLT.out, fun k' hk' => ?_, hBv3, hb3⟩, by have := HLT.out; simp [intOf]; omega⟩
              rcases Nat.lt_or_ge k' i with h | h
              · exact HALL.out k' h
              · obtain rfl : k' = i := by omega
                intro h2
                rw [HD.out]
                refine ⟨HM.out, ?_, fun h0 => ?_⟩
                · rw [HK.out, ← HMM.out]; have := HC.out; omega
                · rw [show X[k' - 1]'(by omega) = X[j] by congr 1; have := HI1.out; omega, HX.out]
                  exact of_decide_eq_true HP.out.symm
          · have hw7 : decide ((0 : Int) < (i : Int)) = false := decide_eq_false (by omega)
            have hw8 : decide (0 < i) = false := decide_eq_false hpos
            have HP := Lib.hid hpos
            clear hpos
            have hz2 := hb2.size
            generalize Go.Sort.grow (W1.drewN nq) osq = W2 at hg2 hb2 hBd2 hBv2 hz2 ⊢
            refine wp_region_quiet_grown (by assumption) (by kernel_rfl) ?_
            repeat (first | go_big_quiet_skip | quiet_step (fail))
            refine wpQuiet_nil ?_
            intro _ hw'
            obtain ⟨⟨nq2, osq2⟩, hw''⟩ := hw'
            subst hw''
            have hg3 : Grw W2 (Go.Sort.grow (W2.drewN nq2) osq2) := ⟨nq2, osq2, rfl⟩
            have hb3 := hb2.trans (hg3.below.mono hz2)
            have hBv3 := hBv2.below hg3.below hBv2.lt
            go_wp2
            refine ⟨⟨i + 1, by go_num, HLT.out, fun k' hk' => ?_, hBv3, hb3⟩, by have := HLT.out; simp [intOf]; omega⟩
            rcases Nat.lt_or_ge k' i with h | h
            · exact HALL.out k' h
            · obtain rfl : k' = i := by omega
              intro h2
              rw [HD.out]
              refine ⟨HM.out, ?_, fun h0 => absurd h0 HP.out⟩
              rw [HK.out, ← HMM.out]; have := HC.out; omega
      · rw [decide_eq_false hM] at c1
        have HM := Lib.hid hM
        clear hM
        refine wp_region_quiet_grown (by assumption) (by kernel_rfl) ?_
        repeat (first | go_big_quiet_skip | quiet_step ((first | (go_at_call 13; refine Calls.grown_of (c1 _ _)))))
        refine wpQuiet_nil ?_
        intro _ hw'
        obtain ⟨⟨nq, osq⟩, hw''⟩ := hw'
        subst hw''
        have hg2 : Grw W1 (Go.Sort.grow (W1.drewN nq) osq) := ⟨nq, osq, rfl⟩
        have hb2 := hb1.trans (hg2.below.mono hz1)
        clear c1 q0 q1
        go_wp2
        go_ret
        refine ⟨⟨false, rfl, ⟨fun h => (by cases h), fun h => ?_⟩⟩, hb2⟩
        have h1 := (h i HLT.out).1
        rw [HD.out] at h1
        exact absurd h1 HM.out
    · obtain rfl : i = X.length := by omega
      clear hlt hi
      go_wp2
      go_ret
      refine ⟨⟨true, rfl, ?_⟩, hb⟩
      refine ⟨fun _ i => ?_, fun _ => rfl⟩
      rcases Nat.lt_or_ge i X.length with h | h
      · exact HALL.out i h
      · exact fun h2 => absurd h2 (by omega)
end Go.Proofs.Ytoglhpcboonpeaa

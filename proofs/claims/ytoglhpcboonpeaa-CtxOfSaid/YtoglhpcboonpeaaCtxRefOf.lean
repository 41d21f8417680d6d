/-
  The walk of the document's Of.
-/
import Derived.Test.YtoglhpcboonpeaaCtxFit
import Derived.Test.YtoglhpcboonpeaaCtxOfW
namespace Go.Proofs.Ytoglhpcboonpeaa
open Go.RowKit
open CtxM
set_option linter.unusedVariables false
set_option linter.unusedSimpArgs false
set_option maxRecDepth 20000

def RefOfEnd (V : List Nat) (X : List Dt) (v : Value) (w : World) (e : Ending) (w' : World) : Prop :=
  Below w.heap.size w w' ∧ ((OfOk V X ∧ ∃ h, e = .returned (.tuple #[.pointer (some ⟨h, 0, none⟩), .bool true]) ∧ Blk w' h 30 (sxc V v) ∧ w.heap.size ≤ h) ∨ (¬ OfOk V X ∧ e = .returned (.tuple #[.pointer none, .bool false])))
theorem getD_of {V : List Nat} {k : Nat} (h : k < V.length) : V.getD k 0 = V[k] := by
  rw [List.getD_eq_getElem?_getD, List.getElem?_eq_getElem h]; rfl

theorem wpList_build_to {P : Program} {ops : Array Oper} {rest : List Oper} {o : Oper} {a : Act} {w : World} {Q : Exit → Act → World → Prop} (hgd : o.guard = none) (t : TypeId) (parts : Array (Nat × Operand)) (ho : o.op = .build t parts)
    (cells : Array Value) (hc : P.built t (parts.map fun (i, x) => (i, a.eval x)).toList = some cells) (h : wpList P ops Q rest (a.put o.dst (.agg cells)) w) : wpList P ops Q (o :: rest) a w :=
  wpList_plain hgd fun _ hK => wp_build t parts ho (by rw [hc]; rfl) (by rw [hc]; exact hK _ _ h)
theorem set_places : (Try.prog.underlying 30).map (fun d => match d with | .struct fields => fields.toList.mapM (fun f => (Try.prog.info? f.type).map fun i => (f.offset, i.size)) | _ => none) = some (some [(0, 16), (16, 1)]) := by kernel_rfl
theorem set_zero : (Try.prog.info? 30).map (·.zero) = some (some (.agg #[.int .u64 0, .int .u64 0, .int .u64 0, .int .u64 0, .int .u64 0, .int .u64 0, .int .u64 0, .int .u64 0, .int .u64 0, .int .u64 0, .int .u64 0, .int .u64 0, .int .u64 0, .int .u64 0, .int .u64 0, .int .u64 0, .slice none 0 0])) := by kernel_rfl
theorem fill_set (a0 a1 a2 a3 a4 a5 a6 a7 a8 a9 a10 a11 a12 a13 a14 a15 : Value) (q : Option Addr) (n c : Nat) : Instr.fill (fun x => ([(0, 16), (16, 1)] : List (Nat × Nat)).toArray[x]?) (#[.int .u64 0, .int .u64 0, .int .u64 0, .int .u64 0, .int .u64 0, .int .u64 0, .int .u64 0, .int .u64 0, .int .u64 0, .int .u64 0, .int .u64 0, .int .u64 0, .int .u64 0, .int .u64 0, .int .u64 0, .int .u64 0, .slice none 0 0]) [(0, .agg #[a0, a1, a2, a3, a4, a5, a6, a7, a8, a9, a10, a11, a12, a13, a14, a15]), (1, .slice q n c)] = some #[a0, a1, a2, a3, a4, a5, a6, a7, a8, a9, a10, a11, a12, a13, a14, a15, .slice q n c] := by
  simp [Instr.fill, Value.cells, Array.zipIdx, List.foldl]
theorem built_set {V : List Nat} (hV : V.length = 16) (q : Option Addr) (n c : Nat) : Try.prog.built 30 [(0, .agg (uqs V)), (1, .slice q n c)] = some (sxc V (.slice q n c)) := by
  obtain ⟨a0, a1, a2, a3, a4, a5, a6, a7, a8, a9, a10, a11, a12, a13, a14, a15, rfl⟩ := list16 hV
  unfold Program.built
  obtain ⟨it, hi, hz⟩ := Option.map_eq_some_iff.1 set_zero
  obtain ⟨d, hd, hp⟩ := Option.map_eq_some_iff.1 set_places
  rw [hi, hd]
  cases d <;> simp only at hp <;> try (cases hp; done)
  simp only [hz, hp]
  exact fill_set _ _ _ _ _ _ _ _ _ _ _ _ _ _ _ _ _ _ _

set_option maxHeartbeats 8000000 in
theorem refOf_any (V : List Nat) (v : Value) (X : List Dt) (w : World) (hV : V.length = 16) (hs : Sd w v X) (hl : X.length ≤ 100000) :
    Calls Try.prog 32 #[.agg (uqs V), v] w (RefOfEnd V X v w) := by
  have hfo : Try.prog.follows .mixedOrders = true := by kernel_rfl
  have HS := Lib.hid hs
  obtain ⟨A, c, rfl, _, _⟩ := hs
  have hB0 := Blk.new w 52 (uqs V)
  have hb0 : Below w.heap.size w (w.alloc (.cells (uqs V) 52)) := (Below.refl _ _).alloc (Nat.le_refl _) _
  have HV := Lib.hid hV
  clear hV
  go_enter Try.func32, Try.ntmps32
  go_wp2
  generalize hW : w.alloc (.cells (uqs V) 52) = W1 at hB0 hb0 ⊢
  clear hW
  go_loop [6] (fun i => ∃ k : Nat, k ≤ 16 ∧ i = .int .i64 (k : Int) ∧ ∀ j, j < k → V.getD j 0 ≤ top) (fun i => 16 - (intOf i).toNat)
  case atStart => exact ⟨0, by omega, rfl, fun j h => absurd h (by omega)⟩
  case round =>
    obtain ⟨k, hk, rfl, hall⟩ := hrel
    have HALL := Lib.hid hall
    clear hall
    by_cases hlt : k < 16
    · have hx : W1.cell? ⟨w.heap.size, k, none⟩ = some (.int .u64 (V.getD k 0 : Int)) := by rw [hB0.cell, uqs_get V k (by have := HV.out; omega)]
      obtain ⟨x, hxe⟩ : ∃ x, x = V.getD k 0 := ⟨_, rfl⟩
      rw [← hxe] at hx
      have HX := Lib.hid hxe
      clear hxe
      by_cases hbig : x ≤ 4611686018427387904
      · have hd : decide ((4611686018427387904 : Int) < (x : Int)) = false := decide_eq_false (by omega)
        have HBIG := Lib.hid hbig
        clear hbig
        go_wp2
        go_round
        case rel =>
          refine ⟨k + 1, by omega, by go_num, fun j hj => ?_⟩
          rcases Nat.lt_or_ge j k with h | h
          · exact HALL.out j h
          · obtain rfl : j = k := by omega
            rw [← HX.out]; exact HBIG.out
        case measure => simp [intOf]; omega
      · have hd : decide ((4611686018427387904 : Int) < (x : Int)) = true := decide_eq_true (by omega)
        have HBIG := Lib.hid hbig
        clear hbig
        go_wp2
        go_ret2
        refine ⟨hb0, .inr ⟨fun h => ?_, rfl⟩⟩
        have hkl : k < V.length := by have := HV.out; omega
        have h1 := h.1 (V[k]) (List.getElem_mem hkl)
        rw [← getD_of hkl, ← HX.out] at h1
        exact HBIG.out h1
    · obtain rfl : k = 16 := by omega
      have hle : ∀ n ∈ V, n ≤ top := fun n hn => by
        obtain ⟨j, hj, rfl⟩ := List.getElem_of_mem hn
        have h1 := HALL.out j (by have := HV.out; omega)
        rw [getD_of hj] at h1
        exact h1
      have HLE := Lib.hid hle
      clear hle HALL hlt hk
      go_wp2
      go_loopw [7] (fun z wr => ∃ i : Nat, z = .int .i64 (i : Int) ∧ i ≤ X.length ∧ (∀ k, k < i → FitAt V X k) ∧ Blk wr w.heap.size 52 (uqs V) ∧ Below w.heap.size w wr) (fun z _ => X.length - (intOf z).toNat)
      case atStart => exact ⟨0, rfl, Nat.zero_le _, fun k h => absurd h (by omega), hB0, hb0⟩
      case round =>
        clear hB0 hb0
        obtain ⟨i, rfl, hi, hall, hB, hb⟩ := hrel
        have HALL := Lib.hid hall
        clear hall
        by_cases hlt : i < X.length
        · obtain ⟨d, hd⟩ : ∃ d, X[i] = d := ⟨_, rfl⟩
          obtain ⟨b, o, rfl, k0, k1⟩ := (HS.out.below hb).at_ i hlt d hd
          have hil : (i : Int) < (X.length : Int) := by omega
          have hi0 : (0 : Int) ≤ (i : Int) := by omega
          have HD := Lib.hid hd
          have HLT := Lib.hid hlt
          have hz := hb.size
          clear hd
          have c1 := fun n os => refMay_any d (Go.Sort.grow (wr.drewN n) os)
          have q0 : ∀ n os, (Go.Sort.grow (wr.drewN n) os).cell? ⟨b, o + i * 2, none⟩ = some (.int .i64 d.1) := cell_grown (World.block_lt_of_cell? wr _ k0) k0
          have q1 : ∀ n os, (Go.Sort.grow (wr.drewN n) os).cell? ⟨b, o + i * 2 + 1, none⟩ = some (.int .u64 (d.2 : Int)) := cell_grown (World.block_lt_of_cell? wr _ k1) k1
          clear k0 k1
          by_cases hM : May d
          · rw [decide_eq_true hM] at c1
            have HM := Lib.hid hM
            obtain ⟨k, hk⟩ : ∃ k : Nat, d.1 = (k : Int) + 1 := ⟨(d.1 - 1).toNat, by have := hM.1; omega⟩
            have hk16 : k < 16 := by have := hM.2.1; omega
            have hat := at_le HLE.out ((k : Int) + 1)
            have hv := vec_cell hB HV.out k hk16
            have q2 : ∀ n os, (Go.Sort.grow (wr.drewN n) os).cell? ⟨w.heap.size, k, none⟩ = some (.int .u64 (at_ V ((k : Int) + 1) : Int)) := cell_grown hB.lt hv
            obtain ⟨m, hm⟩ : ∃ m, m = at_ V ((k : Int) + 1) := ⟨_, rfl⟩
            rw [← hm] at hat q2
            have HMM := Lib.hid hm
            have HK := Lib.hid hk
            have hw1 : IntKind.u64.wrap ((m : Int) + 1) = (m : Int) + 1 := by rw [IntKind.wrap_u64]; unfold top at hat; omega
            have hwk : IntKind.i64.wrap (k : Int) = (k : Int) := by rw [IntKind.wrap_i64]; omega
            have hk0 : (0 : Int) ≤ (k : Int) := by omega
            have hk1 : (k : Int) < 16 := by omega
            rw [hk] at c1 q0
            obtain ⟨cc, hcc⟩ : ∃ cc : Bool, cc = decide ((d.2 : Int) ≤ (m : Int) + 1) := ⟨_, rfl⟩
            have hci : decide ((d.2 : Int) ≤ (m : Int) + 1) = cc := hcc.symm
            have HCC := Lib.hid hcc
            clear hM hv hk hm hat hcc
            by_cases hpos : 0 < i
            · obtain ⟨j, hi1⟩ : ∃ j, j + 1 = i := ⟨i - 1, by omega⟩
              have hjl : j < X.length := by have := HLT.out; omega
              obtain ⟨x, hx⟩ : ∃ x, X[j] = x := ⟨_, rfl⟩
              obtain ⟨bb, oo, ee, k2, k3⟩ := (HS.out.below hb).at_ j hjl x hx
              injection ee with ee
              injection ee with f1 f2
              subst f1; subst f2
              have HX := Lib.hid hx
              have q3 : ∀ n os, (Go.Sort.grow (wr.drewN n) os).cell? ⟨b, o + j * 2, none⟩ = some (.int .i64 x.1) := cell_grown (World.block_lt_of_cell? wr _ k2) k2
              have q4 : ∀ n os, (Go.Sort.grow (wr.drewN n) os).cell? ⟨b, o + j * 2 + 1, none⟩ = some (.int .u64 (x.2 : Int)) := cell_grown (World.block_lt_of_cell? wr _ k3) k3
              have c3 := fun n os => refLess_any x d (Go.Sort.grow (wr.drewN n) os)
              rw [HK.out] at c3
              obtain ⟨p2, hp2⟩ : ∃ p, p = decide (Lt x d) := ⟨_, rfl⟩
              rw [← hp2] at c3
              have HP := Lib.hid hp2
              clear k2 k3 hx hp2
              have hw3 : (0 : Int) ≤ (j : Int) := by omega
              have hw4 : (j : Int) < (X.length : Int) := by omega
              have hw1' : IntKind.i64.wrap ((i : Int) - 1) = (j : Int) := by rw [IntKind.wrap_i64] <;> omega
              have hw5 : (0 : Int) < (i : Int) := by omega
              have hw6 : 0 < i := by omega
              have hw7 : decide ((0 : Int) < (i : Int)) = true := decide_eq_true hw5
              have hw8 : decide (0 < i) = true := decide_eq_true hw6
              have HI1 := Lib.hid hi1
              clear hi1 hpos
              cases p2
              · go_wp2_with fail
                refine wp_region_quiet_grown (by assumption) (by kernel_rfl) ?_
                repeat (first | go_big_quiet_skip | quiet_step ((first | (go_at_call 12; refine Calls.grown_of (c1 _ _)) | (go_at_call 19; refine Calls.grown_of (c3 _ _)))))
                refine wpQuiet_nil ?_
                intro _ hw'
                obtain ⟨⟨nq, osq⟩, hw''⟩ := hw'
                subst hw''
                have hg3 : Grw wr (Go.Sort.grow (wr.drewN nq) osq) := ⟨nq, osq, rfl⟩
                have hb3 := hb.trans (hg3.below.mono hz)
                clear c1 c3 q0 q1 q2 q3 q4
                go_wp2
                go_ret2
                refine ⟨hb3, .inr ⟨fun h => ?_, rfl⟩⟩
                have h1 := (h.2 i HLT.out).2.2 hw6
                rw [HD.out, show X[i - 1]'(by omega) = X[j] by congr 1; have := HI1.out; omega, HX.out] at h1
                exact absurd h1 (of_decide_eq_false HP.out.symm)
              · cases cc
                · go_wp2_with fail
                  refine wp_region_quiet_grown (by assumption) (by kernel_rfl) ?_
                  repeat (first | go_big_quiet_skip | quiet_step ((first | (go_at_call 12; refine Calls.grown_of (c1 _ _)) | (go_at_call 19; refine Calls.grown_of (c3 _ _)))))
                  refine wpQuiet_nil ?_
                  intro _ hw'
                  obtain ⟨⟨nq, osq⟩, hw''⟩ := hw'
                  subst hw''
                  have hg3 : Grw wr (Go.Sort.grow (wr.drewN nq) osq) := ⟨nq, osq, rfl⟩
                  have hb3 := hb.trans (hg3.below.mono hz)
                  have hBv3 := hB.below hg3.below hB.lt
                  clear c1 c3 q0 q1 q2 q3 q4
                  go_wp2
                  refine ⟨⟨i + 1, by go_num, HLT.out, fun k' hk' => ?_, hBv3, hb3⟩, by have := HLT.out; simp [intOf]; omega⟩
                  rcases Nat.lt_or_ge k' i with h | h
                  · exact HALL.out k' h
                  · obtain rfl : k' = i := by omega
                    intro h2
                    rw [HD.out]
                    refine ⟨HM.out, ?_, fun h0 => ?_⟩
                    · rw [HK.out, ← HMM.out]; have := of_decide_eq_false HCC.out.symm; omega
                    · rw [show X[k' - 1]'(by omega) = X[j] by congr 1; have := HI1.out; omega, HX.out]
                      exact of_decide_eq_true HP.out.symm
                · go_wp2_with fail
                  refine wp_region_quiet_grown (by assumption) (by kernel_rfl) ?_
                  repeat (first | go_big_quiet_skip | quiet_step ((first | (go_at_call 12; refine Calls.grown_of (c1 _ _)) | (go_at_call 19; refine Calls.grown_of (c3 _ _)))))
                  refine wpQuiet_nil ?_
                  intro _ hw'
                  obtain ⟨⟨nq, osq⟩, hw''⟩ := hw'
                  subst hw''
                  have hg3 : Grw wr (Go.Sort.grow (wr.drewN nq) osq) := ⟨nq, osq, rfl⟩
                  have hb3 := hb.trans (hg3.below.mono hz)
                  clear c1 c3 q0 q1 q2 q3 q4
                  go_wp2
                  go_ret2
                  refine ⟨hb3, .inr ⟨fun h => ?_, rfl⟩⟩
                  have h1 := (h.2 i HLT.out).2.1
                  rw [HD.out, HK.out, ← HMM.out] at h1
                  have := of_decide_eq_true HCC.out.symm; omega
            · have hw7 : decide ((0 : Int) < (i : Int)) = false := decide_eq_false (by omega)
              have hw8 : decide (0 < i) = false := decide_eq_false hpos
              have HP := Lib.hid hpos
              clear hpos
              cases cc
              · go_wp2_with fail
                refine wp_region_quiet_grown (by assumption) (by kernel_rfl) ?_
                repeat (first | go_big_quiet_skip | quiet_step ((first | (go_at_call 12; refine Calls.grown_of (c1 _ _)))))
                refine wpQuiet_nil ?_
                intro _ hw'
                obtain ⟨⟨nq, osq⟩, hw''⟩ := hw'
                subst hw''
                have hg3 : Grw wr (Go.Sort.grow (wr.drewN nq) osq) := ⟨nq, osq, rfl⟩
                have hb3 := hb.trans (hg3.below.mono hz)
                have hBv3 := hB.below hg3.below hB.lt
                clear c1 q0 q1 q2
                go_wp2
                refine ⟨⟨i + 1, by go_num, HLT.out, fun k' hk' => ?_, hBv3, hb3⟩, by have := HLT.out; simp [intOf]; omega⟩
                rcases Nat.lt_or_ge k' i with h | h
                · exact HALL.out k' h
                · obtain rfl : k' = i := by omega
                  intro h2
                  rw [HD.out]
                  refine ⟨HM.out, ?_, fun h0 => absurd h0 HP.out⟩
                  rw [HK.out, ← HMM.out]; have := of_decide_eq_false HCC.out.symm; omega
              · go_wp2_with fail
                refine wp_region_quiet_grown (by assumption) (by kernel_rfl) ?_
                repeat (first | go_big_quiet_skip | quiet_step ((first | (go_at_call 12; refine Calls.grown_of (c1 _ _)))))
                refine wpQuiet_nil ?_
                intro _ hw'
                obtain ⟨⟨nq, osq⟩, hw''⟩ := hw'
                subst hw''
                have hg3 : Grw wr (Go.Sort.grow (wr.drewN nq) osq) := ⟨nq, osq, rfl⟩
                have hb3 := hb.trans (hg3.below.mono hz)
                clear c1 q0 q1 q2
                go_wp2
                go_ret2
                refine ⟨hb3, .inr ⟨fun h => ?_, rfl⟩⟩
                have h1 := (h.2 i HLT.out).2.1
                rw [HD.out, HK.out, ← HMM.out] at h1
                have := of_decide_eq_true HCC.out.symm; omega
          · rw [decide_eq_false hM] at c1
            have HM := Lib.hid hM
            clear hM
            go_wp2_with fail
            refine wp_region_quiet_grown (by assumption) (by kernel_rfl) ?_
            repeat (first | go_big_quiet_skip | quiet_step ((first | (go_at_call 12; refine Calls.grown_of (c1 _ _)))))
            refine wpQuiet_nil ?_
            intro _ hw'
            obtain ⟨⟨nq, osq⟩, hw''⟩ := hw'
            subst hw''
            have hg2 : Grw wr (Go.Sort.grow (wr.drewN nq) osq) := ⟨nq, osq, rfl⟩
            have hb2 := hb.trans (hg2.below.mono hz)
            clear c1 q0 q1
            go_wp2
            go_ret2
            refine ⟨hb2, .inr ⟨fun h => ?_, rfl⟩⟩
            have h1 := (h.2 i HLT.out).1
            rw [HD.out] at h1
            exact absurd h1 HM.out
        · obtain rfl : i = X.length := by omega
          have hfit : FitX V X := fun i => by
            rcases Nat.lt_or_ge i X.length with h | h
            · exact HALL.out i h
            · exact fun h2 => absurd h2 (by omega)
          have HFIT := Lib.hid hfit
          have hinf := uqs_info HV.out
          have hz := hb.size
          clear hlt hi hfit HALL
          go_wp2_with (first | (refine wpList_load_row rfl 52 _ rfl w.heap.size rfl 52 (uqs V) (0, 0) _ hB Try.underlying52 rfl hinf ?_) | (refine wpList_build_to rfl 30 _ rfl (sxc V (.slice A X.length c)) ?hbc ?_; case hbc => exact Eq.trans (by kernel_rfl) (built_set HV.out A X.length c)))
          go_ret2
          exact ⟨hb.alloc hz _, .inl ⟨⟨HLE.out, HFIT.out⟩, _, rfl, Blk.new _ _ _, hz⟩⟩
end Go.Proofs.Ytoglhpcboonpeaa

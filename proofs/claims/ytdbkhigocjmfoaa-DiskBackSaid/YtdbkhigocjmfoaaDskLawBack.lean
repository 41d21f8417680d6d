/-
  The walk of DiskBack.
-/
import Derived.Test.YtdbkhigocjmfoaaDskMx
namespace Go.Proofs.Ytdbkhigocjmfoaa
open Go.RowKit Go.Maps Go.Shelf
open DskM
set_option linter.unusedVariables false
set_option linter.unusedSimpArgs false
set_option maxRecDepth 100000
attribute [local go_sem] Oper.semAt_some


def BkI (w0 : World) (p pc m mc b5 b8 b9 hi : Nat) (S : Ds) (LL Lc : List Fo) (pre : List (EntL LL)) (W : World) : Prop :=
  Below w0.heap.size w0 W ∧ hi ≤ W.heap.size ∧ Blk W b5 23 #[.pointer (some ⟨p, 0, none⟩)] ∧ Blk W w0.heap.size 4 #[.bool false] ∧ Blk W b8 23 #[.pointer (some ⟨pc, 0, none⟩)] ∧
    Blk W b9 3 #[.int .i64 (pre.length : Int)] ∧ Dk W p m S LL ∧ Dk W pc mc ⟨S.cap, -1, false, 0⟩ Lc
theorem BkI.own {w0 : World} {p pc m mc b5 b8 b9 hi : Nat} {S : Ds} {LL Lc : List Fo} (h0 : w0.heap.size ≤ hi) (h1 : m < hi) (h2 : mc < hi) : OwnFrom hi (BkI w0 p pc m mc b5 b8 b9 hi S LL Lc) := by
  rintro pre X Y row ⟨hb, hs, c1, c2, c3, c4, d1, d2⟩ hg hr
  exact ⟨hb.grown hg hb.size (fun k e => by have := (hr k e).1; omega), Nat.le_trans hs hg.size, c1.own hg (fun r e => hr r e), c2.own hg (fun r e => hr r e), c3.own hg (fun r e => hr r e), c4.own hg (fun r e => hr r e), d1.own hg (fun r e => hr r e) h1, d2.own hg (fun r e => hr r e) h2⟩
def BkJ (w0 : World) (p m b5 b9 D hi : Nat) (S : Ds) (LL Lc : List Fo) (pre : List (EntL Lc)) (W : World) : Prop :=
  Below w0.heap.size w0 W ∧ hi ≤ W.heap.size ∧ Blk W b5 23 #[.pointer (some ⟨p, 0, none⟩)] ∧ Blk W w0.heap.size 4 #[.bool false] ∧
    Blk W b9 3 #[.int .i64 ((LL.length : Int) - (pre.length : Int))] ∧ Dk W p m S LL ∧ W.heap[D]? = some (.deferred (some []))
theorem BkJ.own {w0 : World} {p m b5 b9 D hi : Nat} {S : Ds} {LL Lc : List Fo} (h0 : w0.heap.size ≤ hi) (h1 : m < hi) (h2 : D < hi) : OwnFrom hi (BkJ w0 p m b5 b9 D hi S LL Lc) := by
  rintro pre X Y row ⟨hb, hs, c1, c2, c4, d1, hK⟩ hg hr
  exact ⟨hb.grown hg hb.size (fun k e => by have := (hr k e).1; omega), Nat.le_trans hs hg.size, c1.own hg (fun r e => hr r e), c2.own hg (fun r e => hr r e), c4.own hg (fun r e => hr r e), d1.own hg (fun r e => hr r e) h1, (hg.block D (Array.getElem?_eq_some_iff.1 hK).1 (fun e => by have := (hr D e.symm).1; omega)).trans hK⟩
set_option maxHeartbeats 16000000 in
theorem lawBack (v0 v1 : Value) (L : List St) (kp : List Int) (w : World) (hs : Sts w v0 L) (hk : SlN w v1 kp) :
    Calls Try.prog 4 #[v0, v1] w fun e w' => e = .returned (.bool true) ∧ Below w.heap.size w w' := by
  have hfo : Try.prog.follows .mixedOrders = true := by kernel_rfl
  have hfn := func_nil
  have hb0 := al1 w (.cells #[.bool false] 4)
  have hR0 := Blk.new w 4 #[.bool false]
  obtain ⟨w0, hw0⟩ : ∃ w0, w0 = w.alloc (.cells #[.bool false] 4) := ⟨_, rfl⟩
  rw [← hw0] at hb0 hR0
  have HS := Lib.hid hs
  have HK := Lib.hid hk
  have HW0 := Lib.hid hw0
  have HB0 := Lib.hid hb0
  have HR0 := Lib.hid hR0
  clear hs hk hw0 hb0 hR0
  refine (callsIn_wide (n := 8)).1 ?_
  refine callsIn_of_wp_marks Try.func4 rfl trivial ?_ rfl
  simp only [Try.ntmps4, List.size_toArray, List.length_cons, List.length_nil, Nat.reduceAdd, Nat.reduceSub, Array.replicate_succ, Array.replicate_zero, List.push_toArray, List.append_toArray, List.nil_append, List.cons_append]
  gi_wp2_with fail
  rw [← HW0.out]
  refine ⟨trivial, (callsIn_wide.2 (known_law w0)).mono ?_⟩
  rintro e w1 ⟨rfl, hb1⟩
  have HB1 := Lib.hid (HB0.out.trans (hb1.mono HB0.out.size))
  have HR1 := Lib.hid (HR0.out.below hb1 HR0.out.lt)
  clear hb1
  gi_wp2_with fail
  refine ⟨trivial, (callsIn_wide.2 (much_any v0 L 150 (by omega) w1 (HS.out.below HB1.out))).mono ?_⟩
  rintro e w2 ⟨r, rfl, hb2, hfew⟩
  have HB2 := Lib.hid (HB1.out.trans (hb2.mono HB1.out.size))
  have HR2 := Lib.hid (HR1.out.below hb2 HR1.out.lt)
  have HFEW := Lib.hid hfew
  clear hb2 hfew
  have f4 := HR2.out.frozen 0
  have q4 : w2.cell? ⟨w.heap.size, 0, none⟩ = some (.bool false) := by rw [HR2.out.cell]; rfl
  obtain ⟨KA, KC, hkv⟩ : ∃ KA KC, v1 = .slice KA kp.length KC := by obtain ⟨KA, KC, e, _⟩ := HK.out; exact ⟨KA, KC, e⟩
  subst hkv
  have hRt : Blk (w2.setCell ⟨w.heap.size, 0, none⟩ (.bool true)) w.heap.size 4 #[.bool true] := HR2.out.set_ 0 _
  have HT2 := Lib.hid (And.intro (show (w2.setCell ⟨w.heap.size, 0, none⟩ (.bool true)).cell? ⟨w.heap.size, 0, none⟩ = some (.bool true) by rw [hRt.cell]; rfl) (HB2.out.setCell (p := ⟨w.heap.size, 0, none⟩) (Nat.le_refl _) (.bool true)))
  clear hRt
  cases r with
  | true =>
    gi_wp2
    refine ⟨.bool true, ?_, rfl, HT2.out.2⟩
    have hc5 := HT2.out.1
    simp [results, Try.f4, go_sem, hc5]
  | false =>
    by_cases hkl : kp.length ≤ 300
    · have hkI : decide (300 < (kp.length : Int)) = false := decide_eq_false (by omega)
      have hkI2 : ¬ 300 < kp.length := by omega
      have HKL := Lib.hid hkl
      obtain ⟨hL1, hL2⟩ := HFEW.out rfl
      have HL := Lib.hid (And.intro hL1 hL2)
      clear hkl HFEW hL1 hL2
      gi_wp2_with fail
      refine ⟨trivial, (callsIn_wide.2 (my_new 30000 w2 (by omega) (by omega))).mono ?_⟩
      rintro e w3 ⟨p, rfl, hm3, hb3⟩
      have HM3 := Lib.hid hm3
      have HB23 := Lib.hid hb3
      clear hm3 hb3 f4 q4 HT2 hkI hkI2
      gi_wp2_with fail
      obtain ⟨A0, c0, hv0⟩ : ∃ A0 c0, v0 = .slice A0 L.length c0 := by obtain ⟨A, c, e, _⟩ := HS.out; exact ⟨A, c, e⟩
      subst hv0
      obtain ⟨b5, hb5⟩ : ∃ b5, b5 = w3.heap.size := ⟨_, rfl⟩
      obtain ⟨w4, hw4⟩ : ∃ w4, w4 = w3.alloc (.cells #[.pointer (some ⟨p, 0, none⟩)] 23) := ⟨_, rfl⟩
      have hlt2 := HR2.out.lt
      have hz23 := HB23.out.size
      have hmx : Mx (fun i => w.heap.size + 1 ≤ i ∧ i ≠ b5) w4 p ⟨30000, -1, false, 0⟩ [] := by
        rw [hw4]; exact (HM3.out.mx (fun i h1 h2 => ⟨by omega, by omega⟩)).below (al1 w3 _)
      have hB4 : Blk w4 b5 23 #[.pointer (some ⟨p, 0, none⟩)] := by rw [hw4, hb5]; exact Blk.new w3 _ _
      have hR4 : Blk w4 w.heap.size 4 #[.bool false] := by rw [hw4]; exact (HR2.out.below HB23.out HR2.out.lt).alloc _
      have hb4 : Below w.heap.size w w4 := by rw [hw4]; exact (HB2.out.trans (HB23.out.mono HB2.out.size)).alloc (Nat.le_trans HB2.out.size hz23) _
      have hb5w : w.heap.size + 1 ≤ b5 := by omega
      have hb5l : b5 < w4.heap.size := hB4.lt
      have HLB := Lib.hid (show w.heap.size ≤ b5 by omega)
      have HLB2 := Lib.hid hb5w
      rw [← hw4, ← hb5]
      have HMX := Lib.hid hmx
      have HB4 := Lib.hid hB4
      have HR4 := Lib.hid hR4
      have HBW4 := Lib.hid hb4
      have HL5 := Lib.hid hb5l
      have q5 : w4.cell? ⟨b5, 0, none⟩ = some (.pointer (some ⟨p, 0, none⟩)) := by rw [hB4.cell]; rfl
      clear hmx hB4 hR4 hb4 hb5w hb5l hw4 hb5 hlt2 hz23 HM3 HB23 HR2 HB2 HR1 HB1 HR0 HB0 HW0
      refine ⟨trivial, (callsIn_wide.2 (num_any 0 w4)).mono ?_⟩
      rintro e wx ⟨rfl, hwx⟩
      rw [hwx]
      clear hwx wx
      gi_wp2_with fail
      clear q5
      gi_loopw [7] (fun z wr => ∃ (i p : Nat) (S : Ds) (F : List Fp), z = .int .i64 (i : Int) ∧ i ≤ L.length ∧ Mx (fun i => w.heap.size + 1 ≤ i ∧ i ≠ b5) wr p S F ∧ S.cap = 30000 ∧ S.wr ≤ i ∧ Blk wr b5 23 #[.pointer (some ⟨p, 0, none⟩)] ∧ Blk wr w.heap.size 4 #[.bool false] ∧ Below w.heap.size w wr) (fun z _ => L.length - (intOf z).toNat)
      case atStart => exact ⟨0, p, _, _, rfl, Nat.zero_le _, HMX.out, rfl, Nat.le_refl _, HB4.out, HR4.out, HBW4.out⟩
      case round =>
        clear HMX HB4 HR4 HBW4 HL5
        obtain ⟨i, p, S, F, rfl, hi, hm, hcap, hwr, hB, hR, hb⟩ := hrel
        have HM := Lib.hid hm
        have HC := Lib.hid (And.intro hcap hwr)
        have HB := Lib.hid hB
        have HR := Lib.hid hR
        have HBW := Lib.hid hb
        clear hm hcap hwr hB hR hb
        by_cases hlt : i < L.length
        · obtain ⟨bs, os, eA, hcs, hst⟩ : ∃ bs os, A0 = some ⟨bs, os, none⟩ ∧ (∀ X, Below w.heap.size w X → StCells X bs (os + i * 6) L[i]) ∧ St0 w L[i] := by
            obtain ⟨A, c, e, hc, ha⟩ := HS.out
            obtain ⟨b, o, e2, hx⟩ := ha (by omega)
            injection e with e1 _ e3
            exact ⟨b, o, by rw [e1, e2], fun X hX => (hx i hlt).1.below hX, (hx i hlt).2⟩
          subst eA
          have hlen := (HL.out.2 L[i] (List.getElem_mem hlt)).1
          generalize L[i] = s at hcs hst hlen
          have hsa : ∀ X, Below w.heap.size w X → StAt X s := fun X hX => ⟨(hst.below hX).b, (hst.below hX).k, hst.n1, hst.n2, hlen⟩
          obtain ⟨r, hr⟩ : ∃ r, doS S F s = r := ⟨_, rfl⟩
          have hnum : r.2.1.cap = 30000 ∧ r.2.1.wr ≤ i + 1 := by
            have := doS_nums S F s
            rw [hr] at this
            have := HC.out
            omega
          have HCS := Lib.hid hcs
          have HNUM := Lib.hid hnum
          have HDO := Lib.hid (show ∀ X, Below w.heap.size w X → Mx (fun i => w.heap.size + 1 ≤ i ∧ i ≠ b5) X p S F → (w.heap.size + 1 ≤ X.heap.size ∧ b5 < X.heap.size) → Calls Try.prog 13 #[.pointer (some ⟨p, 0, none⟩), .agg s.cs] X fun e W' => ∃ p', e = .returned (.tuple #[.int .i64 r.1, .pointer (some ⟨p', 0, none⟩)]) ∧ Mx (fun i => w.heap.size + 1 ≤ i ∧ i ≠ b5) W' p' r.2.1 r.2.2 ∧ Keep (fun i => w.heap.size + 1 ≤ i ∧ i ≠ b5) X W' from
            fun X h1 h2 h3 => mx_do h2 (fun i hi => ⟨by omega, by omega⟩) (by have := HC.out.2; have := HL.out.1; omega) s (hsa X h1) hr)
          have hiI : (i : Int) < (L.length : Int) := by omega
          have hi0 : (0 : Int) ≤ (i : Int) := by omega
          have hiM : (i : Int) ≤ 150 := by have := HL.out.1; omega
          have HLT := Lib.hid hlt
          clear hcs hst hlen hsa hr hnum hlt
          gi_wp2_with fail
          refine wpIn_only (wpIn_wide.2 ?_)
          have hwd : Below wr.heap.size wr wr.drew := (Below.refl _ _).drew
          refine wp_region_held_drew (S := fun X => Below w.heap.size w X) hfo (HBW.out.trans (hwd.mono HBW.out.size)) (fun hS0 => ?_)
          have HMW := Lib.hid (HM.out.below hwd)
          have HBW := Lib.hid (Blk.drew HB.out)
          have HRW := Lib.hid (Blk.drew HR.out)
          have HSZW := Lib.hid (show w.heap.size + 1 ≤ wr.drew.heap.size ∧ b5 < wr.drew.heap.size from ⟨HR.out.lt, HB.out.lt⟩)
          have q5 : wr.drew.cell? ⟨b5, 0, none⟩ = some (.pointer (some ⟨p, 0, none⟩)) := by rw [HBW.out.cell]; rfl
          clear hwd
          generalize wr.drew = W2 at hS0 HMW HBW HRW HSZW q5 ⊢
          refine' wpAnyH_take (i := 1) (oi := ⟨some 51, _, _, _, _, _⟩) (v := _) rfl (by kernel_rfl) (by kernel_rfl) (by kernel_rfl) (fun _ _ _ h => h) (Or.inl ⟨by rfl, ?y1⟩) hS0 ?r1
          case y1 => (intro w' hSw; go_simp; try rfl)
          try simp only [Act.put, List.setIfInBounds_toArray, List.set_cons_zero, List.set_cons_succ]
          refine' wpAnyH_take (i := 2) (oi := ⟨some 52, _, _, _, _, _⟩) (v := _) rfl (by kernel_rfl) (by kernel_rfl) (by kernel_rfl) (fun _ _ _ h => h) (Or.inl ⟨by rfl, ?y2⟩) hS0 ?r2
          case y2 => (intro w' hSw; go_simp; try rfl)
          try simp only [Act.put, List.setIfInBounds_toArray, List.set_cons_zero, List.set_cons_succ]
          refine' wpAnyH_take (i := 3) (oi := ⟨some 53, _, _, _, _, _⟩) (v := _) rfl (by kernel_rfl) (by kernel_rfl) (by kernel_rfl) (fun _ _ _ h => h) (Or.inl ⟨by rfl, ?y3⟩) hS0 ?r3
          case y3 => (intro w' hSw; go_simp; try rfl)
          try simp only [Act.put, List.setIfInBounds_toArray, List.set_cons_zero, List.set_cons_succ]
          refine' wpAnyH_take (i := 4) (oi := ⟨some 54, _, _, _, _, _⟩) (v := _) rfl (by kernel_rfl) (by kernel_rfl) (by kernel_rfl) (fun _ _ _ h => h) (Or.inl ⟨by rfl, ?y4⟩) hS0 ?r4
          case y4 => (intro w' hSw; have e := HCS.out w' hSw; obtain ⟨e0, e1, e2, e3, e4, e5⟩ := e; go_simp; try rfl)
          try simp only [Act.put, List.setIfInBounds_toArray, List.set_cons_zero, List.set_cons_succ]
          refine held_one (i := 0) (by kernel_rfl) rfl (fun K hK => ?_)
          go_simp
          refine hK.out _ _ hS0 (fun _ => ?_)
          clear hK K
          try simp only [Act.put, List.setIfInBounds_toArray, List.set_cons_zero, List.set_cons_succ]
          refine held_one (i := 5) (by kernel_rfl) rfl (fun K hK => ?_)
          go_simp
          refine (HDO.out _ hS0 HMW.out HSZW.out).mono ?_
          rintro e W5 ⟨p5, rfl, hm5, hk5⟩
          have hb5 : Below w.heap.size w W5 := ⟨hk5.os.trans hS0.os, hk5.tape.trans hS0.tape, hk5.output.trans hS0.output, Nat.le_trans hS0.size hk5.size, fun k hk => (hk5.block k (Nat.lt_of_lt_of_le hk hS0.size) (fun e => by omega)).trans (hS0.block k hk)⟩
          have hB5 := HBW.out.kept hk5 (fun e => e.2 rfl)
          have hR5 := HRW.out.kept hk5 (fun e => by omega)
          have q5 : W5.cell? ⟨b5, 0, none⟩ = some (.pointer (some ⟨p, 0, none⟩)) := by rw [hB5.cell]; rfl
          have f5 := hB5.frozen 0
          have HM5 := Lib.hid hm5
          have HK5 := Lib.hid hk5
          have HR5 := Lib.hid hR5
          have HB5 := Lib.hid hB5
          clear hm5 hk5 hB5 hR5
          refine hK.out _ _ hb5 (fun _ => ?_)
          clear hK K
          try simp only [Act.put, List.setIfInBounds_toArray, List.set_cons_zero, List.set_cons_succ]
          refine' wpAnyH_take (i := 6) (oi := ⟨some 49, _, _, _, _, _⟩) (v := _) rfl (by kernel_rfl) (by kernel_rfl) (by kernel_rfl) (fun _ _ _ h => h) (Or.inl ⟨by rfl, ?y6⟩) hb5 ?r6
          case y6 => (intro w' hSw; go_simp; try rfl)
          try simp only [Act.put, List.setIfInBounds_toArray, List.set_cons_zero, List.set_cons_succ]
          refine' wpAnyH_take (i := 7) (oi := ⟨some 56, _, _, _, _, _⟩) (v := _) rfl (by kernel_rfl) (by kernel_rfl) (by kernel_rfl) (fun _ _ _ h => h) (Or.inl ⟨by rfl, ?y7⟩) hb5 ?r7
          case y7 => (intro w' hSw; go_simp; try rfl)
          try simp only [Act.put, List.setIfInBounds_toArray, List.set_cons_zero, List.set_cons_succ]
          refine' wpAnyH_take (i := 8) (oi := ⟨some 57, _, _, _, _, _⟩) (v := _) rfl (by kernel_rfl) (by kernel_rfl) (by kernel_rfl) (fun _ _ _ h => h) (Or.inl ⟨by rfl, ?y8⟩) hb5 ?r8
          case y8 => (intro w' hSw; go_simp; try rfl)
          try simp only [Act.put, List.setIfInBounds_toArray, List.set_cons_zero, List.set_cons_succ]
          refine held_one (i := 9) (by kernel_rfl) rfl (fun K hK => ?_)
          go_simp
          have hk6 : Keep (fun i => i = b5) W5 (W5.setCell ⟨b5, 0, none⟩ (.pointer (some ⟨p5, 0, none⟩))) := Keep.setCell _ _ _ rfl
          have hb6 : Below w.heap.size w (W5.setCell ⟨b5, 0, none⟩ (.pointer (some ⟨p5, 0, none⟩))) := hb5.setCell (p := ⟨b5, 0, none⟩) HLB.out _
          have hB6 : Blk (W5.setCell ⟨b5, 0, none⟩ (.pointer (some ⟨p5, 0, none⟩))) b5 23 #[.pointer (some ⟨p5, 0, none⟩)] := HB5.out.set_ 0 _
          have hR6 := HR5.out.kept hk6 (fun e => by have := HLB2.out; omega)
          have hm6 := HM5.out.kept hk6 (fun i hi e => hi.2 e)
          have hq6 : (W5.setCell ⟨b5, 0, none⟩ (.pointer (some ⟨p5, 0, none⟩))).cell? ⟨b5, 0, none⟩ = some (.pointer (some ⟨p5, 0, none⟩)) := by rw [hB6.cell]; rfl
          have HE6 := Lib.hid (And.intro hm6 (And.intro hB6 (And.intro hR6 hb6)))
          clear hk6 hB6 hR6 hm6
          generalize W5.setCell ⟨b5, 0, none⟩ (.pointer (some ⟨p5, 0, none⟩)) = W6 at *
          refine hK.out _ _ hb6 (fun _ => ?_)
          clear hK K
          try simp only [Act.put, List.setIfInBounds_toArray, List.set_cons_zero, List.set_cons_succ]
          refine wpAnyH_done (by kernel_rfl) ?_ _
          dsimp only [OnlyNormal]
          clear hb5 hb6 hS0 f5 q5
          gi_wp2
          exact ⟨⟨i + 1, p5, r.2.1, r.2.2, by simp, HLT.out, HE6.out.1, HNUM.out.1, HNUM.out.2, HE6.out.2.1, HE6.out.2.2.1, HE6.out.2.2.2⟩, by have := HLT.out; simp [intOf]; omega⟩
        · obtain rfl : i = L.length := by omega
          clear hlt hi
          obtain ⟨hcap, hwr⟩ := HC.out
          obtain ⟨m, LL, eF, hd, hf⟩ := HM.out
          have hmb : m < wr.heap.size := hd.map.lt
          have HDD := Lib.hid hd
          have HF := Lib.hid hf
          have HCAP := Lib.hid hcap
          have hBl := HB.out.lt
          have q5 : wr.cell? ⟨b5, 0, none⟩ = some (.pointer (some ⟨p, 0, none⟩)) := by rw [HB.out.cell]; rfl
          clear hd hf eF HM HC hcap hwr
          gi_wp2_with fail
          refine ⟨trivial, (callsIn_wide.2 (crash_any HDD.out kp _ (HK.out.below HBW.out))).mono ?_⟩
          rintro e wc ⟨pc, mc, Lc, rfl, ec, hdc, hfc, hbc⟩
          obtain ⟨b8, hb8⟩ : ∃ b8, b8 = wc.heap.size := ⟨_, rfl⟩
          obtain ⟨w8, hw8⟩ : ∃ w8, w8 = wc.alloc (.cells #[.pointer (some ⟨pc, 0, none⟩)] 23) := ⟨_, rfl⟩
          have hb08 : Below wr.heap.size wr w8 := by rw [hw8]; exact hbc.alloc hbc.size _
          have hd8 : Dk w8 p m S LL := HDD.out.below hb08
          have hdc8 : Dk w8 pc mc ⟨S.cap, -1, false, 0⟩ Lc := by rw [hw8]; exact hdc.below (al1 wc _)
          have hB8 : Blk w8 b8 23 #[.pointer (some ⟨pc, 0, none⟩)] := by rw [hw8, hb8]; exact Blk.new wc _ _
          have hmc8 : mc < b8 := by rw [hb8]; exact hdc.map.lt
          have hz8 : w8.heap.size = b8 + 1 := by rw [hw8, hb8]; simp
          have hwb8 : wr.heap.size ≤ b8 := by rw [hb8]; exact hbc.size
          have HEC := Lib.hid ec
          have H8 := Lib.hid (And.intro (HBW.out.trans (hb08.mono HBW.out.size)) (And.intro (HB.out.below hb08 HB.out.lt) (And.intro (HR.out.below hb08 HR.out.lt) (And.intro hB8 (And.intro hd8 hdc8)))))
          have HZ8 := Lib.hid (And.intro hmb (And.intro hBl (And.intro hmc8 (And.intro hz8 (And.intro hwb8 HR.out.lt)))))
          clear hb08 hd8 hdc8 hB8 hmc8 hz8 hwb8 hmb hBl q5 ec hdc hfc hbc
          have HD := Lib.hid H8.out.2.2.2.2.1
          have hS0 : w8.drew.cell? ⟨b8, 0, none⟩ = some (.pointer (some ⟨pc, 0, none⟩)) ∧ Dk w8.drew pc mc ⟨S.cap, -1, false, 0⟩ Lc := ⟨by rw [H8.out.2.2.2.1.drew.cell]; rfl, H8.out.2.2.2.2.2.below (Below.refl _ _).drew⟩
          have HS0 := Lib.hid hS0
          clear hS0
          gi_wp2_with fail
          rw [← hb8, ← hw8]
          refine wpIn_only (wpIn_wide.2 ?_)
          refine wp_region_held_drew (S := fun X => X.cell? ⟨b8, 0, none⟩ = some (.pointer (some ⟨pc, 0, none⟩)) ∧ Dk X pc mc ⟨S.cap, -1, false, 0⟩ Lc) hfo HS0.out (fun hS0 => ?_)
          have HWD := Lib.hid (show Below w8.heap.size w8 w8.drew from (Below.refl _ _).drew)
          clear HS0 hw8 hb8
          generalize w8.drew = W2 at hS0 HWD ⊢
          refine' wpAnyH_take (i := 0) (oi := ⟨some 63, _, _, _, _, _⟩) (v := _) rfl (by kernel_rfl) (by kernel_rfl) (by kernel_rfl) (fun _ _ _ h => h) (Or.inl ⟨by rfl, ?y0b⟩) hS0 ?r0b
          case y0b => (intro w' hSw; obtain ⟨s8, d8⟩ := hSw; go_simp; try rfl)
          try simp only [Act.put, List.setIfInBounds_toArray, List.set_cons_zero, List.set_cons_succ]
          refine' wpAnyH_take (i := 1) (oi := ⟨some 64, _, _, _, _, _⟩) (v := _) rfl (by kernel_rfl) (by kernel_rfl) (by kernel_rfl) (fun _ _ _ h => h) (Or.inl ⟨by rfl, ?y1b⟩) hS0 ?r1b
          case y1b => (intro w' hSw; obtain ⟨s8, d8⟩ := hSw; go_simp; try rfl)
          try simp only [Act.put, List.setIfInBounds_toArray, List.set_cons_zero, List.set_cons_succ]
          refine' wpAnyH_take (i := 2) (oi := ⟨some 65, _, _, _, _, _⟩) (v := _) rfl (by kernel_rfl) (by kernel_rfl) (by kernel_rfl) (fun _ _ _ h => h) (Or.inl ⟨by rfl, ?y2b⟩) hS0 ?r2b
          case y2b => (intro w' hSw; obtain ⟨s8, d8⟩ := hSw; go_simp; try rfl)
          try simp only [Act.put, List.setIfInBounds_toArray, List.set_cons_zero, List.set_cons_succ]
          refine' wpAnyH_take (i := 3) (oi := ⟨some 66, _, _, _, _, _⟩) (v := _) rfl (by kernel_rfl) (by kernel_rfl) (by kernel_rfl) (fun _ _ _ h => h) (Or.inl ⟨by rfl, ?y3b⟩) hS0 ?r3b
          case y3b => (intro w' hSw; obtain ⟨s8, d8⟩ := hSw; go_simp; try rfl)
          try simp only [Act.put, List.setIfInBounds_toArray, List.set_cons_zero, List.set_cons_succ]
          refine held_one (i := 4) (by kernel_rfl) rfl (fun K hK => ?_)
          go_simp
          refine (dead_any hS0.2).mono ?_
          rintro e wx ⟨rfl, hwx⟩
          rw [hwx]
          clear hwx wx
          refine hK.out _ _ hS0 (fun _ => ?_)
          clear hK K
          try simp only [Act.put, List.setIfInBounds_toArray, List.set_cons_zero, List.set_cons_succ]
          refine' wpAnyH_take (i := 5) (oi := ⟨some 68, _, _, _, _, _⟩) (v := _) rfl (by kernel_rfl) (by kernel_rfl) (by kernel_rfl) (fun _ _ _ h => h) (Or.inl ⟨by rfl, ?y5b⟩) hS0 ?r5b
          case y5b => (intro w' hSw; obtain ⟨s8, d8⟩ := hSw; go_simp; try rfl)
          try simp only [Act.put, List.setIfInBounds_toArray, List.set_cons_zero, List.set_cons_succ]
          refine' wpAnyH_take (i := 6) (oi := ⟨some 69, _, _, _, _, _⟩) (v := _) rfl (by kernel_rfl) (by kernel_rfl) (by kernel_rfl) (fun _ _ _ h => h) (Or.inl ⟨by rfl, ?y6b⟩) hS0 ?r6b
          case y6b => (intro w' hSw; obtain ⟨s8, d8⟩ := hSw; go_simp; try rfl)
          try simp only [Act.put, List.setIfInBounds_toArray, List.set_cons_zero, List.set_cons_succ]
          refine' wpAnyH_take (i := 7) (oi := ⟨some 70, _, _, _, _, _⟩) (v := _) rfl (by kernel_rfl) (by kernel_rfl) (by kernel_rfl) (fun _ _ _ h => h) (Or.inl ⟨by rfl, ?y7b⟩) hS0 ?r7b
          case y7b => (intro w' hSw; obtain ⟨s8, d8⟩ := hSw; go_simp; try rfl)
          try simp only [Act.put, List.setIfInBounds_toArray, List.set_cons_zero, List.set_cons_succ]
          refine held_one (i := 8) (by kernel_rfl) rfl (fun K hK => ?_)
          go_simp
          refine (writes_any hS0.2).mono ?_
          rintro e wx ⟨rfl, hwx⟩
          rw [hwx]
          clear hwx wx
          refine hK.out _ _ hS0 (fun _ => ?_)
          clear hK K
          try simp only [Act.put, List.setIfInBounds_toArray, List.set_cons_zero, List.set_cons_succ]
          refine' wpAnyH_take (i := 9) (oi := ⟨some 72, _, _, _, _, _⟩) (v := _) rfl (by kernel_rfl) (by kernel_rfl) (by kernel_rfl) (fun _ _ _ h => h) (Or.inl ⟨by rfl, ?y9b⟩) hS0 ?r9b
          case y9b => (intro w' hSw; obtain ⟨s8, d8⟩ := hSw; go_simp; try rfl)
          try simp only [Act.put, List.setIfInBounds_toArray, List.set_cons_zero, List.set_cons_succ]
          refine' wpAnyH_take (i := 10) (oi := ⟨some 73, _, _, _, _, _⟩) (v := _) rfl (by kernel_rfl) (by kernel_rfl) (by kernel_rfl) (fun _ _ _ h => h) (Or.inl ⟨by rfl, ?y10b⟩) hS0 ?r10b
          case y10b => (intro w' hSw; obtain ⟨s8, d8⟩ := hSw; go_simp; try rfl)
          try simp only [Act.put, List.setIfInBounds_toArray, List.set_cons_zero, List.set_cons_succ]
          refine' wpAnyH_take (i := 11) (oi := ⟨some 74, _, _, _, _, _⟩) (v := _) rfl (by kernel_rfl) (by kernel_rfl) (by kernel_rfl) (fun _ _ _ h => h) (Or.inl ⟨by rfl, ?y11b⟩) hS0 ?r11b
          case y11b => (intro w' hSw; obtain ⟨s8, d8⟩ := hSw; go_simp; try rfl)
          try simp only [Act.put, List.setIfInBounds_toArray, List.set_cons_zero, List.set_cons_succ]
          refine' wpAnyH_take (i := 12) (oi := ⟨some 75, _, _, _, _, _⟩) (v := _) rfl (by kernel_rfl) (by kernel_rfl) (by kernel_rfl) (fun _ _ _ h => h) (Or.inl ⟨by rfl, ?y12b⟩) hS0 ?r12b
          case y12b => (intro w' hSw; obtain ⟨s8, d8⟩ := hSw; go_simp; try rfl)
          try simp only [Act.put, List.setIfInBounds_toArray, List.set_cons_zero, List.set_cons_succ]
          refine' wpAnyH_take (i := 13) (oi := ⟨some 76, _, _, _, _, _⟩) (v := _) rfl (by kernel_rfl) (by kernel_rfl) (by kernel_rfl) (fun _ _ _ h => h) (Or.inl ⟨by rfl, ?y13b⟩) hS0 ?r13b
          case y13b => (intro w' hSw; obtain ⟨s8, d8⟩ := hSw; go_simp; try rfl)
          try simp only [Act.put, List.setIfInBounds_toArray, List.set_cons_zero, List.set_cons_succ]
          refine held_one (i := 14) (by kernel_rfl) rfl (fun K hK => ?_)
          go_simp
          refine (crash_any hS0.2 [] (.slice none 0 0) (SlN.nil _ _ _ (by omega))).mono ?_
          rintro e W3 ⟨pe, me, Le, rfl, ee, hde, _, hbe⟩
          have hS3 : W3.cell? ⟨b8, 0, none⟩ = some (.pointer (some ⟨pc, 0, none⟩)) ∧ Dk W3 pc mc ⟨S.cap, -1, false, 0⟩ Lc := ⟨(hbe.cell (World.block_lt_of_cell? _ _ hS0.1)).trans hS0.1, hS0.2.below hbe⟩
          have HBE := Lib.hid hbe
          have HDE := Lib.hid hde
          have HEE := Lib.hid ee
          clear hbe hde ee
          refine hK.out _ _ hS3 (fun _ => ?_)
          clear hK K
          try simp only [Act.put, List.setIfInBounds_toArray, List.set_cons_zero, List.set_cons_succ]
          refine held_one (i := 15) (by kernel_rfl) rfl (fun K hK => ?_)
          go_simp
          refine (same_dd hS3.2 HDE.out).mono ?_
          rintro e W4 ⟨rfl, hb4⟩
          have hsm : sameP ⟨S.cap, -1, false, 0⟩ ⟨S.cap, -1, false, 0⟩ Lc Le = true := decide_eq_true ⟨rfl, by rw [HEE.out, HEC.out, crash_again _ _ HD.out.las]⟩
          have hS4 : W4.cell? ⟨b8, 0, none⟩ = some (.pointer (some ⟨pc, 0, none⟩)) ∧ Dk W4 pc mc ⟨S.cap, -1, false, 0⟩ Lc := ⟨(hb4.cell (World.block_lt_of_cell? _ _ hS3.1)).trans hS3.1, hS3.2.below hb4⟩
          have HB34 := Lib.hid hb4
          clear hb4
          rw [show (sameP ⟨S.cap, -1, false, 0⟩ (Ds.mk (Ds.mk S.cap (-1) false 0).cap (-1) false 0) Lc Le) = true from hsm]
          refine hK.out _ _ hS4 (fun _ => ?_)
          clear hK K
          try simp only [Act.put, List.setIfInBounds_toArray, List.set_cons_zero, List.set_cons_succ]
          refine' wpAnyH_take (i := 16) (oi := ⟨some 79, _, _, _, _, _⟩) (v := _) rfl (by kernel_rfl) (by kernel_rfl) (by kernel_rfl) (fun _ _ _ h => h) (Or.inl ⟨by rfl, ?y16b⟩) hS4 ?r16b
          case y16b => (intro w' hSw; obtain ⟨s8, d8⟩ := hSw; go_simp; try rfl)
          try simp only [Act.put, List.setIfInBounds_toArray, List.set_cons_zero, List.set_cons_succ]
          refine' wpAnyH_take (i := 17) (oi := ⟨some 80, _, _, _, _, _⟩) (v := _) rfl (by kernel_rfl) (by kernel_rfl) (by kernel_rfl) (fun _ _ _ h => h) (Or.inl ⟨by rfl, ?y17b⟩) hS4 ?r17b
          case y17b => (intro w' hSw; obtain ⟨s8, d8⟩ := hSw; go_simp; try rfl)
          try simp only [Act.put, List.setIfInBounds_toArray, List.set_cons_zero, List.set_cons_succ]
          refine wpAnyH_done (by kernel_rfl) ?_ _
          dsimp only [OnlyNormal]
          have hb9 : Below w8.heap.size w8 W4 := (HWD.out.trans (HBE.out.mono HWD.out.size)).trans (HB34.out.mono (Nat.le_trans HWD.out.size HBE.out.size))
          have h9 : Below w.heap.size w W4 := H8.out.1.trans (hb9.mono H8.out.1.size)
          obtain ⟨b9, hb9e⟩ : ∃ b9, b9 = W4.heap.size := ⟨_, rfl⟩
          obtain ⟨w9, hw9⟩ : ∃ w9, w9 = W4.alloc (.cells #[.int .i64 0] 3) := ⟨_, rfl⟩
          have hb89 : Below w8.heap.size w8 w9 := by rw [hw9]; exact hb9.alloc hb9.size _
          have hB9 : Blk w9 b9 3 #[.int .i64 0] := by rw [hw9, hb9e]; exact Blk.new W4 _ _
          have hz9 : w9.heap.size = b9 + 1 := by rw [hw9, hb9e]; simp
          have h89 : w8.heap.size ≤ b9 := by rw [hb9e]; exact hb9.size
          have H9 := Lib.hid (And.intro (H8.out.1.trans (hb89.mono H8.out.1.size)) (And.intro (H8.out.2.1.below hb89 H8.out.2.1.lt) (And.intro (H8.out.2.2.1.below hb89 H8.out.2.2.1.lt) (And.intro (H8.out.2.2.2.1.below hb89 H8.out.2.2.2.1.lt) (And.intro (H8.out.2.2.2.2.1.below hb89) (And.intro (H8.out.2.2.2.2.2.below hb89) hB9))))))
          have HZ9 := Lib.hid (And.intro hz9 h89)
          have q5 : w9.cell? ⟨b5, 0, none⟩ = some (.pointer (some ⟨p, 0, none⟩)) := by rw [H9.out.2.1.cell]; rfl
          have hfi := files_any H9.out.2.2.2.2.1
          have HFI := Lib.hid hfi
          clear hb9 h9 hb89 hB9 hz9 h89 hfi hS0 hS3 hS4 HB34 HBE HDE HEE HWD hsm
          rw [hw9] at q5
          gi_wp2_with fail
          rw [← hb9e, ← hw9]
          refine ⟨trivial, (callsIn_wide.2 HFI.out).mono ?_⟩
          rintro e w10 ⟨rfl, hnt, hb10⟩
          have hni := hnt.at (Nat.le_refl _) (Nat.le_succ _)
          have hz10 : w9.heap.size ≤ w10.heap.size := hb10.size
          have hst := each_stops Fence.wide 7 trivial rfl (by omega) w9.heap.size (w9.heap.size + 1) w9.heap.size w10.heap.size (LL.map Fo.nm) (LL.map fun f => f.bs.length) (by simp) (by simp; exact HDD.out.few) w10 (Nat.le_refl _) hni
          have HST := Lib.hid hst
          have hi0 : BkI w p pc m mc b5 b8 b9 w10.heap.size S LL Lc [] w10 := ⟨H9.out.1.trans (hb10.mono H9.out.1.size), Nat.le_refl _, H9.out.2.1.below hb10 H9.out.2.1.lt, H9.out.2.2.1.below hb10 H9.out.2.2.1.lt, H9.out.2.2.2.1.below hb10 H9.out.2.2.2.1.lt, H9.out.2.2.2.2.2.2.below hb10 H9.out.2.2.2.2.2.2.lt, H9.out.2.2.2.2.1.below hb10, H9.out.2.2.2.2.2.1.below hb10⟩
          have HI0 := Lib.hid hi0
          have hord : w.heap.size ≤ w10.heap.size ∧ m < w10.heap.size ∧ mc < w10.heap.size := by
            obtain ⟨z1, z2, z3, z4, z5, z6⟩ := HZ8.out
            obtain ⟨z7, z8⟩ := HZ9.out
            omega
          have HORD := Lib.hid hord
          clear hnt hni hst hi0 q5 hfn hw9 hb9e
          have hfn := func_nil
          gi_wp2_with fail
          have hbk := BkI.own (S := S) (LL := LL) (Lc := Lc) (p := p) (pc := pc) (b5 := b5) (b8 := b8) (b9 := b9) HORD.out.1 HORD.out.2.1 HORD.out.2.2
          refine' wpIn_rangeFunc_ownG rfl (by omega) (gf := 51) (lb := #[.pointer (some ⟨w9.heap.size, 0, none⟩), .pointer (some ⟨w9.heap.size + 1, 0, none⟩)]) rfl trivial (enters_of Try.func51 (by kernel_rfl) rfl)
            HST.out (fun {A B C} h k => Mid.trans h k) (Mid.putObj (Nat.le_refl _)) (Below.refl _ _) (fun _ => rfl)
            (BkI w p pc m mc b5 b8 b9 w10.heap.size S LL Lc) (fun _ _ _ => False) hbk (fun _ _ _ _ _ hs _ _ => hs) HI0.out _ ?assign ?body ?done ?stop
          case assign =>
            intro l x W K hK
            dsimp only [encE]
            gi_wp2
            exact hK
          case stop =>
            intro D c pre W hD' _ h _
            exact h.elim
          case body =>
            intro l pre x W hI hlen
            obtain ⟨hb, hs, c1, c2, c3, c4, d1, d2⟩ := hI
            obtain ⟨f, hf, hx⟩ := ent_is x
            have hx1 : x.1.1 = f.nm := by rw [hx]
            have hx2 : x.1.2 = f.bs.length := by rw [hx]
            rw [hx1, hx2]
            obtain ⟨k, hk, ek, n, hn1, hn2, ekb, ekl⟩ := crash_file d1 d2 HEC.out hf
            obtain ⟨s, hsn⟩ : ∃ s : ByteArray, s = ⟨f.nm.toArray⟩ := ⟨_, rfl⟩
            have hsl : s.data.toList = f.nm := by rw [hsn]
            rw [← hsn]
            obtain ⟨r1, r2, r3⟩ := d1.readIs hf
            obtain ⟨r4, r5, r6⟩ := d2.readIs hk
            rw [ek, ← hsl] at r4 r5 r6
            rw [← hsl] at r1 r2 r3
            have hm1 : My 0 W p S (plain LL) := ⟨m, LL, rfl, d1, fun i _ => Nat.zero_le i⟩
            have hm2 : My 0 W pc ⟨S.cap, -1, false, 0⟩ (plain Lc) := ⟨mc, Lc, rfl, d2, fun i _ => Nat.zero_le i⟩
            obtain ⟨bx, hbx⟩ : ∃ bx, bx = f.bs.take n := ⟨_, rfl⟩
            have hbl : bx.length = n := by rw [hbx, List.length_take]; omega
            rw [ekb, ← hbx] at r5
            rw [ekl] at r6
            have hsh := d1.short hf
            have q5 : W.cell? ⟨b5, 0, none⟩ = some (.pointer (some ⟨p, 0, none⟩)) := by rw [c1.cell]; rfl
            have q8 : W.cell? ⟨b8, 0, none⟩ = some (.pointer (some ⟨pc, 0, none⟩)) := by rw [c3.cell]; rfl
            have RD1 := Lib.hid (fun X (hX : Below W.heap.size W X) => my_read_is (hm1.below hX) s r1 r2)
            have RD2 := Lib.hid (fun X (hX : Below W.heap.size W X) => my_read_is (hm2.below hX) s r4 r5)
            have RL1 := Lib.hid (fun X (hX : Below W.heap.size W X) => my_lasts_is (hm1.below hX) s r1 r3)
            have RL2 := Lib.hid (fun X (hX : Below W.heap.size W X) => my_lasts_is (hm2.below hX) s r4 r6)
            have HI := Lib.hid (And.intro hb (And.intro hs (And.intro c1 (And.intro c2 (And.intro c3 (And.intro c4 (And.intro d1 d2)))))))
            have HBX := Lib.hid hbx.symm
            have HNB := Lib.hid (And.intro hn2 hbl)
            have HPL := Lib.hid (show pre.length < 64 by have := HDD.out.few; have e : (LL.map Fo.nm).length = LL.length := by simp
                                                         omega)
            have hla : (f.la : Int) ≤ (n : Int) := by omega
            have hnl : (n : Int) ≤ (f.bs.length : Int) := by omega
            have hlm : (f.bs.length : Int) ≤ 16777216 := by omega
            have hn0 : (0 : Int) ≤ (n : Int) := by omega
            have hla0 : (0 : Int) ≤ (f.la : Int) := by omega
            have hw0 : IntKind.i64.wrap 0 = 0 := rfl
            have hd1 : decide (n < f.la) = false := decide_eq_false (by omega)
            have hd2 : decide (f.bs.length < n) = false := decide_eq_false (by omega)
            have hd3 : decide ((n : Int) < (f.la : Int)) = false := decide_eq_false (by omega)
            have hd4 : decide ((f.bs.length : Int) < (n : Int)) = false := decide_eq_false (by omega)
            generalize hbs : f.bs = bs at *
            generalize hlb : bs.length = lb at *
            generalize f.la = la at *
            clear hm1 hm2 r1 r2 r3 r4 r5 r6 ekb ekl hk ek hsh hb hs c1 c2 c3 c4 d1 d2 hx1 hx2 hx hsn hsl hf hlen hbx hn1 hn2 hbl
            gi_wp2_with fail
            refine ⟨trivial, (CallsIn.inRound l (callsIn_wide.2 (RD1.out W (Below.refl _ _)))).mono ?_⟩
            rintro e X1 ⟨A12, c12, rfl, sl12, hb1⟩
            have q8' : X1.cell? ⟨b8, 0, none⟩ = some (.pointer (some ⟨pc, 0, none⟩)) := (hb1.cell (World.block_lt_of_cell? W _ q8)).trans q8
            have q5' : X1.cell? ⟨b5, 0, none⟩ = some (.pointer (some ⟨p, 0, none⟩)) := (hb1.cell (World.block_lt_of_cell? W _ q5)).trans q5
            have HX1 := Lib.hid hb1
            have S12 := Lib.hid sl12
            clear hb1 sl12 q5 q8
            gi_wp2_with fail
            refine ⟨trivial, (CallsIn.inRound l (callsIn_wide.2 (RD2.out X1 HX1.out))).mono ?_⟩
            rintro e X2 ⟨A14, c14, rfl, sl14, hb2⟩
            have q8 : X2.cell? ⟨b8, 0, none⟩ = some (.pointer (some ⟨pc, 0, none⟩)) := (hb2.cell (World.block_lt_of_cell? X1 _ q8')).trans q8'
            have q5 : X2.cell? ⟨b5, 0, none⟩ = some (.pointer (some ⟨p, 0, none⟩)) := (hb2.cell (World.block_lt_of_cell? X1 _ q5')).trans q5'
            have HX2 := Lib.hid (HX1.out.trans (hb2.mono HX1.out.size))
            have S12' := Lib.hid (S12.out.below hb2)
            have S14 := Lib.hid sl14
            clear hb2 sl14 q5' q8' S12 HX1
            gi_wp2_with fail
            refine ⟨trivial, (CallsIn.inRound l (callsIn_wide.2 (RL1.out X2 HX2.out))).mono ?_⟩
            rintro e X3 ⟨rfl, hb3⟩
            have q8' : X3.cell? ⟨b8, 0, none⟩ = some (.pointer (some ⟨pc, 0, none⟩)) := (hb3.cell (World.block_lt_of_cell? X2 _ q8)).trans q8
            have HX3 := Lib.hid (HX2.out.trans (hb3.mono HX2.out.size))
            have S12 := Lib.hid (S12'.out.below hb3)
            have S14' := Lib.hid (S14.out.below hb3)
            clear hb3 q5 q8 S12' S14 HX2
            gi_wp2_with fail
            refine ⟨trivial, (CallsIn.inRound l (callsIn_wide.2 (RL2.out X3 HX3.out))).mono ?_⟩
            rintro e X4 ⟨rfl, hb4⟩
            have HX4 := Lib.hid (HX3.out.trans (hb4.mono HX3.out.size))
            have S12' := Lib.hid (S12.out.below hb4)
            have S14 := Lib.hid (S14'.out.below hb4)
            clear hb4 q8' S12 S14' HX3 RD1 RD2 RL1 RL2
            rw [HNB.out.2] at S14 ⊢
            have hc12 : (n : Int) ≤ (c12 : Int) := by
              obtain ⟨A', c', e', h', _⟩ := S12'.out
              injection e' with _ e2 e3
              omega
            gi_wp2_with fail
            refine wpIn_region_held_round (S := fun X => Sl X (.slice A12 lb c12) bs ∧ Sl X (.slice A14 n c14) bx) hfo (by kernel_rfl) (fun _ _ h => h) ⟨S12'.out.drew, S14.out.drew⟩ (fun hS0 => ?_)
            have HX5 := Lib.hid (show Below W.heap.size W X4.drew from HX4.out.trans ((Below.refl _ _).drew.mono HX4.out.size))
            generalize X4.drew = X5 at hS0 HX5 ⊢
            refine' wpAnyH_take (i := 0) (oi := ⟨some 112, _, _, _, _, _⟩) (v := _) rfl (by kernel_rfl) (by kernel_rfl) (by kernel_rfl) (fun _ _ _ h => h) (Or.inl ⟨by rfl, ?y0c⟩) hS0 ?r0c
            case y0c => (intro w' hSw; obtain ⟨s1, s2⟩ := hSw; go_simp; try rfl)
            try simp only [Act.put, List.setIfInBounds_toArray, List.set_cons_zero, List.set_cons_succ]
            refine' wpAnyH_take (i := 2) (oi := ⟨some 114, _, _, _, _, _⟩) (v := _) rfl (by kernel_rfl) (by kernel_rfl) (by kernel_rfl) (fun _ _ _ h => h) (Or.inl ⟨by rfl, ?y2c⟩) hS0 ?r2c
            case y2c => (intro w' hSw; obtain ⟨s1, s2⟩ := hSw; go_simp; try rfl)
            try simp only [Act.put, List.setIfInBounds_toArray, List.set_cons_zero, List.set_cons_succ]
            refine' wpAnyH_take (i := 5) (oi := ⟨some 117, _, _, _, _, _⟩) (v := _) rfl (by kernel_rfl) (by kernel_rfl) (by kernel_rfl) (fun _ _ _ h => h) (Or.inl ⟨by rfl, ?y5c⟩) hS0 ?r5c
            case y5c => (intro w' hSw; obtain ⟨s1, s2⟩ := hSw; go_simp; try rfl)
            try simp only [Act.put, List.setIfInBounds_toArray, List.set_cons_zero, List.set_cons_succ]
            refine' wpAnyH_take (i := 8) (oi := ⟨some 120, _, _, _, _, _⟩) (v := _) rfl (by kernel_rfl) (by kernel_rfl) (by kernel_rfl) (fun _ _ _ h => h) (Or.inl ⟨by rfl, ?y8c⟩) hS0 ?r8c
            case y8c => (intro w' hSw; obtain ⟨s1, s2⟩ := hSw; go_simp; try rfl)
            try simp only [Act.put, List.setIfInBounds_toArray, List.set_cons_zero, List.set_cons_succ]
            refine held_one (i := 1) (by kernel_rfl) rfl (fun K hK => ?_)
            go_simp
            refine (num_any 0 _).mono ?_
            rintro e wx ⟨rfl, hwx⟩
            rw [hwx]
            clear hwx wx
            refine hK.out _ _ hS0 (fun _ => ?_)
            clear hK K
            try simp only [Act.put, List.setIfInBounds_toArray, List.set_cons_zero, List.set_cons_succ]
            refine held_one (i := 3) (by kernel_rfl) rfl (fun K hK => ?_)
            go_simp
            refine (num_any 0 _).mono ?_
            rintro e wx ⟨rfl, hwx⟩
            rw [hwx]
            clear hwx wx
            refine hK.out _ _ hS0 (fun _ => ?_)
            clear hK K
            try simp only [Act.put, List.setIfInBounds_toArray, List.set_cons_zero, List.set_cons_succ]
            refine' wpAnyH_take (i := 4) (oi := ⟨some 116, _, _, _, _, _⟩) (v := _) rfl (by kernel_rfl) (by kernel_rfl) (by kernel_rfl) (fun _ _ _ h => h) (Or.inl ⟨by rfl, ?y4c⟩) hS0 ?r4c
            case y4c => (intro w' hSw; obtain ⟨s1, s2⟩ := hSw; go_simp; try rfl)
            try simp only [Act.put, List.setIfInBounds_toArray, List.set_cons_zero, List.set_cons_succ]
            refine held_one (i := 6) (by kernel_rfl) rfl (fun K hK => ?_)
            go_simp
            refine (num_any 0 _).mono ?_
            rintro e wx ⟨rfl, hwx⟩
            rw [hwx]
            clear hwx wx
            refine hK.out _ _ hS0 (fun _ => ?_)
            clear hK K
            try simp only [Act.put, List.setIfInBounds_toArray, List.set_cons_zero, List.set_cons_succ]
            refine' wpAnyH_take (i := 7) (oi := ⟨some 119, _, _, _, _, _⟩) (v := _) rfl (by kernel_rfl) (by kernel_rfl) (by kernel_rfl) (fun _ _ _ h => h) (Or.inl ⟨by rfl, ?y7c⟩) hS0 ?r7c
            case y7c => (intro w' hSw; obtain ⟨s1, s2⟩ := hSw; go_simp; try rfl)
            try simp only [Act.put, List.setIfInBounds_toArray, List.set_cons_zero, List.set_cons_succ]
            refine held_one (i := 9) (by kernel_rfl) rfl (fun K hK => ?_)
            go_simp
            refine (num_any 0 _).mono ?_
            rintro e wx ⟨rfl, hwx⟩
            rw [hwx]
            clear hwx wx
            refine hK.out _ _ hS0 (fun _ => ?_)
            clear hK K
            try simp only [Act.put, List.setIfInBounds_toArray, List.set_cons_zero, List.set_cons_succ]
            refine' wpAnyH_take (i := 10) (oi := ⟨some 122, _, _, _, _, _⟩) (v := _) rfl (by kernel_rfl) (by kernel_rfl) (by kernel_rfl) (fun _ _ _ h => h) (Or.inl ⟨by rfl, ?y10c⟩) hS0 ?r10c
            case y10c => (intro w' hSw; obtain ⟨s1, s2⟩ := hSw; go_simp; try rfl)
            try simp only [Act.put, List.setIfInBounds_toArray, List.set_cons_zero, List.set_cons_succ]
            refine' wpAnyH_take (i := 11) (oi := ⟨some 123, _, _, _, _, _⟩) (v := _) rfl (by kernel_rfl) (by kernel_rfl) (by kernel_rfl) (fun _ _ _ h => h) (Or.inl ⟨by rfl, ?y11c⟩) hS0 ?r11c
            case y11c => (intro w' hSw; obtain ⟨s1, s2⟩ := hSw; go_simp; try rfl)
            try simp only [Act.put, List.setIfInBounds_toArray, List.set_cons_zero, List.set_cons_succ]
            refine' wpAnyH_take (i := 12) (oi := ⟨some 124, _, _, _, _, _⟩) (v := _) rfl (by kernel_rfl) (by kernel_rfl) (by kernel_rfl) (fun _ _ _ h => h) (Or.inl ⟨by rfl, ?y12c⟩) hS0 ?r12c
            case y12c => (intro w' hSw; obtain ⟨s1, s2⟩ := hSw; go_simp; try rfl)
            try simp only [Act.put, List.setIfInBounds_toArray, List.set_cons_zero, List.set_cons_succ]
            refine' wpAnyH_take (i := 13) (oi := ⟨some 125, _, _, _, _, _⟩) (v := _) rfl (by kernel_rfl) (by kernel_rfl) (by kernel_rfl) (fun _ _ _ h => h) (Or.inl ⟨by rfl, ?y13c⟩) hS0 ?r13c
            case y13c => (intro w' hSw; obtain ⟨s1, s2⟩ := hSw; go_simp; try rfl)
            try simp only [Act.put, List.setIfInBounds_toArray, List.set_cons_zero, List.set_cons_succ]
            refine' wpAnyH_take (i := 14) (oi := ⟨some 126, _, _, _, _, _⟩) (v := _) rfl (by kernel_rfl) (by kernel_rfl) (by kernel_rfl) (fun _ _ _ h => h) (Or.inl ⟨by rfl, ?y14c⟩) hS0 ?r14c
            case y14c => (intro w' hSw; obtain ⟨s1, s2⟩ := hSw; go_simp; try rfl)
            try simp only [Act.put, List.setIfInBounds_toArray, List.set_cons_zero, List.set_cons_succ]
            refine' wpAnyH_take (i := 15) (oi := ⟨some 127, _, _, _, _, _⟩) (v := _) rfl (by kernel_rfl) (by kernel_rfl) (by kernel_rfl) (fun _ _ _ h => h) (Or.inl ⟨by rfl, ?y15c⟩) hS0 ?r15c
            case y15c => (intro w' hSw; obtain ⟨s1, s2⟩ := hSw; go_simp; try rfl)
            try simp only [Act.put, List.setIfInBounds_toArray, List.set_cons_zero, List.set_cons_succ]
            refine' wpAnyH_take (i := 16) (oi := ⟨some 128, _, _, _, _, _⟩) (v := _) rfl (by kernel_rfl) (by kernel_rfl) (by kernel_rfl) (fun _ _ _ h => h) (Or.inl ⟨by rfl, ?y16c⟩) hS0 ?r16c
            case y16c => (intro w' hSw; obtain ⟨s1, s2⟩ := hSw; go_simp; try rfl)
            try simp only [Act.put, List.setIfInBounds_toArray, List.set_cons_zero, List.set_cons_succ]
            refine' wpAnyH_take (i := 17) (oi := ⟨some 129, _, _, _, _, _⟩) (v := _) rfl (by kernel_rfl) (by kernel_rfl) (by kernel_rfl) (fun _ _ _ h => h) (Or.inl ⟨by rfl, ?y17c⟩) hS0 ?r17c
            case y17c => (intro w' hSw; obtain ⟨s1, s2⟩ := hSw; go_simp; try rfl)
            try simp only [Act.put, List.setIfInBounds_toArray, List.set_cons_zero, List.set_cons_succ]
            refine' wpAnyH_take (i := 18) (oi := ⟨some 130, _, _, _, _, _⟩) (v := _) rfl (by kernel_rfl) (by kernel_rfl) (by kernel_rfl) (fun _ _ _ h => h) (Or.inl ⟨by rfl, ?y18c⟩) hS0 ?r18c
            case y18c => (intro w' hSw; obtain ⟨s1, s2⟩ := hSw; go_simp; try rfl)
            try simp only [Act.put, List.setIfInBounds_toArray, List.set_cons_zero, List.set_cons_succ]
            refine' wpAnyH_take (i := 19) (oi := ⟨some 131, _, _, _, _, _⟩) (v := _) rfl (by kernel_rfl) (by kernel_rfl) (by kernel_rfl) (fun _ _ _ h => h) (Or.inl ⟨by rfl, ?y19c⟩) hS0 ?r19c
            case y19c => (intro w' hSw; obtain ⟨s1, s2⟩ := hSw; go_simp; try rfl)
            try simp only [Act.put, List.setIfInBounds_toArray, List.set_cons_zero, List.set_cons_succ]
            refine' wpAnyH_take (i := 20) (oi := ⟨some 132, _, _, _, _, _⟩) (v := _) rfl (by kernel_rfl) (by kernel_rfl) (by kernel_rfl) (fun _ _ _ h => h) (Or.inl ⟨by rfl, ?y20c⟩) hS0 ?r20c
            case y20c => (intro w' hSw; obtain ⟨s1, s2⟩ := hSw; go_simp; try rfl)
            try simp only [Act.put, List.setIfInBounds_toArray, List.set_cons_zero, List.set_cons_succ]
            refine' wpAnyH_take (i := 21) (oi := ⟨some 133, _, _, _, _, _⟩) (v := _) rfl (by kernel_rfl) (by kernel_rfl) (by kernel_rfl) (fun _ _ _ h => h) (Or.inl ⟨by rfl, ?y21c⟩) hS0 ?r21c
            case y21c => (intro w' hSw; obtain ⟨s1, s2⟩ := hSw; go_simp; try rfl)
            try simp only [Act.put, List.setIfInBounds_toArray, List.set_cons_zero, List.set_cons_succ]
            refine' wpAnyH_take (i := 22) (oi := ⟨some 134, _, _, _, _, _⟩) (v := _) rfl (by kernel_rfl) (by kernel_rfl) (by kernel_rfl) (fun _ _ _ h => h) (Or.inl ⟨by rfl, ?y22c⟩) hS0 ?r22c
            case y22c => (intro w' hSw; obtain ⟨s1, s2⟩ := hSw; go_simp; try rfl)
            try simp only [Act.put, List.setIfInBounds_toArray, List.set_cons_zero, List.set_cons_succ]
            refine' wpAnyH_take (i := 23) (oi := ⟨some 135, _, _, _, _, _⟩) (v := _) rfl (by kernel_rfl) (by kernel_rfl) (by kernel_rfl) (fun _ _ _ h => h) (Or.inl ⟨by rfl, ?y23c⟩) hS0 ?r23c
            case y23c => (intro w' hSw; obtain ⟨s1, s2⟩ := hSw; go_simp; try rfl)
            try simp only [Act.put, List.setIfInBounds_toArray, List.set_cons_zero, List.set_cons_succ]
            refine' wpAnyH_take (i := 24) (oi := ⟨some 136, _, _, _, _, _⟩) (v := _) rfl (by kernel_rfl) (by kernel_rfl) (by kernel_rfl) (fun _ _ _ h => h) (Or.inl ⟨by rfl, ?y24c⟩) hS0 ?r24c
            case y24c => (intro w' hSw; obtain ⟨s1, s2⟩ := hSw; go_simp; try rfl)
            try simp only [Act.put, List.setIfInBounds_toArray, List.set_cons_zero, List.set_cons_succ]
            refine' wpAnyH_take (i := 25) (oi := ⟨some 137, _, _, _, _, _⟩) (v := _) rfl (by kernel_rfl) (by kernel_rfl) (by kernel_rfl) (fun _ _ _ h => h) (Or.inl ⟨by rfl, ?y25c⟩) hS0 ?r25c
            case y25c => (intro w' hSw; obtain ⟨s1, s2⟩ := hSw; go_simp; try rfl)
            try simp only [Act.put, List.setIfInBounds_toArray, List.set_cons_zero, List.set_cons_succ]
            refine' wpAnyH_take (i := 26) (oi := ⟨some 138, _, _, _, _, _⟩) (v := _) rfl (by kernel_rfl) (by kernel_rfl) (by kernel_rfl) (fun _ _ _ h => h) (Or.inl ⟨by rfl, ?y26c⟩) hS0 ?r26c
            case y26c => (intro w' hSw; obtain ⟨s1, s2⟩ := hSw; go_simp; try rfl)
            try simp only [Act.put, List.setIfInBounds_toArray, List.set_cons_zero, List.set_cons_succ]
            refine' wpAnyH_take (i := 27) (oi := ⟨some 139, _, _, _, _, _⟩) (v := _) rfl (by kernel_rfl) (by kernel_rfl) (by kernel_rfl) (fun _ _ _ h => h) (Or.inl ⟨by rfl, ?y27c⟩) hS0 ?r27c
            case y27c => (intro w' hSw; obtain ⟨s1, s2⟩ := hSw; go_simp; try rfl)
            try simp only [Act.put, List.setIfInBounds_toArray, List.set_cons_zero, List.set_cons_succ]
            refine' wpAnyH_take (i := 28) (oi := ⟨some 140, _, _, _, _, _⟩) (v := _) rfl (by kernel_rfl) (by kernel_rfl) (by kernel_rfl) (fun _ _ _ h => h) (Or.inl ⟨by rfl, ?y28c⟩) hS0 ?r28c
            case y28c => (intro w' hSw; obtain ⟨s1, s2⟩ := hSw; go_simp; try rfl)
            try simp only [Act.put, List.setIfInBounds_toArray, List.set_cons_zero, List.set_cons_succ]
            refine' wpAnyH_take (i := 29) (oi := ⟨some 141, _, _, _, _, _⟩) (v := _) rfl (by kernel_rfl) (by kernel_rfl) (by kernel_rfl) (fun _ _ _ h => h) (Or.inl ⟨by rfl, ?y29c⟩) hS0 ?r29c
            case y29c => (intro w' hSw; obtain ⟨s1, s2⟩ := hSw; go_simp; try rfl)
            try simp only [Act.put, List.setIfInBounds_toArray, List.set_cons_zero, List.set_cons_succ]
            refine' wpAnyH_take (i := 30) (oi := ⟨some 142, _, _, _, _, _⟩) (v := _) rfl (by kernel_rfl) (by kernel_rfl) (by kernel_rfl) (fun _ _ _ h => h) (Or.inl ⟨by rfl, ?y30c⟩) hS0 ?r30c
            case y30c => (intro w' hSw; obtain ⟨s1, s2⟩ := hSw; have e := conv_known (Sl.front s1 n HNB.out.1); rw [HBX.out] at e; go_simp; try rfl)
            try simp only [Act.put, List.setIfInBounds_toArray, List.set_cons_zero, List.set_cons_succ]
            refine' wpAnyH_take (i := 31) (oi := ⟨some 143, _, _, _, _, _⟩) (v := _) rfl (by kernel_rfl) (by kernel_rfl) (by kernel_rfl) (fun _ _ _ h => h) (Or.inl ⟨by rfl, ?y31c⟩) hS0 ?r31c
            case y31c => (intro w' hSw; obtain ⟨s1, s2⟩ := hSw; go_simp; try rfl)
            try simp only [Act.put, List.setIfInBounds_toArray, List.set_cons_zero, List.set_cons_succ]
            refine' wpAnyH_take (i := 32) (oi := ⟨some 144, _, _, _, _, _⟩) (v := _) rfl (by kernel_rfl) (by kernel_rfl) (by kernel_rfl) (fun _ _ _ h => h) (Or.inl ⟨by rfl, ?y32c⟩) hS0 ?r32c
            case y32c => (intro w' hSw; obtain ⟨s1, s2⟩ := hSw; have e := conv_known s2; go_simp; try rfl)
            try simp only [Act.put, List.setIfInBounds_toArray, List.set_cons_zero, List.set_cons_succ]
            refine' wpAnyH_take (i := 33) (oi := ⟨some 145, _, _, _, _, _⟩) (v := _) rfl (by kernel_rfl) (by kernel_rfl) (by kernel_rfl) (fun _ _ _ h => h) (Or.inl ⟨by rfl, ?y33c⟩) hS0 ?r33c
            case y33c => (intro w' hSw; obtain ⟨s1, s2⟩ := hSw; go_simp; try rfl)
            try simp only [Act.put, List.setIfInBounds_toArray, List.set_cons_zero, List.set_cons_succ]
            refine' wpAnyH_take (i := 34) (oi := ⟨some 146, _, _, _, _, _⟩) (v := _) rfl (by kernel_rfl) (by kernel_rfl) (by kernel_rfl) (fun _ _ _ h => h) (Or.inl ⟨by rfl, ?y34c⟩) hS0 ?r34c
            case y34c => (intro w' hSw; obtain ⟨s1, s2⟩ := hSw; go_simp; try rfl)
            try simp only [Act.put, List.setIfInBounds_toArray, List.set_cons_zero, List.set_cons_succ]
            refine' wpAnyH_take (i := 35) (oi := ⟨some 147, _, _, _, _, _⟩) (v := _) rfl (by kernel_rfl) (by kernel_rfl) (by kernel_rfl) (fun _ _ _ h => h) (Or.inl ⟨by rfl, ?y35c⟩) hS0 ?r35c
            case y35c => (intro w' hSw; obtain ⟨s1, s2⟩ := hSw; go_simp; try rfl)
            try simp only [Act.put, List.setIfInBounds_toArray, List.set_cons_zero, List.set_cons_succ]
            refine' wpAnyH_take (i := 36) (oi := ⟨some 148, _, _, _, _, _⟩) (v := _) rfl (by kernel_rfl) (by kernel_rfl) (by kernel_rfl) (fun _ _ _ h => h) (Or.inl ⟨by rfl, ?y36c⟩) hS0 ?r36c
            case y36c => (intro w' hSw; obtain ⟨s1, s2⟩ := hSw; go_simp; try rfl)
            try simp only [Act.put, List.setIfInBounds_toArray, List.set_cons_zero, List.set_cons_succ]
            refine' wpAnyH_take (i := 37) (oi := ⟨some 149, _, _, _, _, _⟩) (v := _) rfl (by kernel_rfl) (by kernel_rfl) (by kernel_rfl) (fun _ _ _ h => h) (Or.inl ⟨by rfl, ?y37c⟩) hS0 ?r37c
            case y37c => (intro w' hSw; obtain ⟨s1, s2⟩ := hSw; go_simp; try rfl)
            try simp only [Act.put, List.setIfInBounds_toArray, List.set_cons_zero, List.set_cons_succ]
            refine' wpAnyH_take (i := 38) (oi := ⟨some 150, _, _, _, _, _⟩) (v := _) rfl (by kernel_rfl) (by kernel_rfl) (by kernel_rfl) (fun _ _ _ h => h) (Or.inl ⟨by rfl, ?y38c⟩) hS0 ?r38c
            case y38c => (intro w' hSw; obtain ⟨s1, s2⟩ := hSw; go_simp; try rfl)
            try simp only [Act.put, List.setIfInBounds_toArray, List.set_cons_zero, List.set_cons_succ]
            refine' wpAnyH_take (i := 39) (oi := ⟨some 151, _, _, _, _, _⟩) (v := _) rfl (by kernel_rfl) (by kernel_rfl) (by kernel_rfl) (fun _ _ _ h => h) (Or.inl ⟨by rfl, ?y39c⟩) hS0 ?r39c
            case y39c => (intro w' hSw; obtain ⟨s1, s2⟩ := hSw; go_simp; try rfl)
            try simp only [Act.put, List.setIfInBounds_toArray, List.set_cons_zero, List.set_cons_succ]
            refine' wpAnyH_take (i := 40) (oi := ⟨some 152, _, _, _, _, _⟩) (v := _) rfl (by kernel_rfl) (by kernel_rfl) (by kernel_rfl) (fun _ _ _ h => h) (Or.inl ⟨by rfl, ?y40c⟩) hS0 ?r40c
            case y40c => (intro w' hSw; obtain ⟨s1, s2⟩ := hSw; go_simp; try rfl)
            try simp only [Act.put, List.setIfInBounds_toArray, List.set_cons_zero, List.set_cons_succ]
            refine wpAnyH_done (by kernel_rfl) ?_ _
            have hB9 := HI.out.2.2.2.2.2.1.below HX5.out HI.out.2.2.2.2.2.1.lt
            have q9 : X5.cell? ⟨b9, 0, none⟩ = some (.int .i64 (pre.length : Int)) := by rw [hB9.cell]; rfl
            have f9 := hB9.frozen 0
            have hpl : (pre.length : Int) < 64 := by have := HPL.out; omega
            have hpl0 : (0 : Int) ≤ (pre.length : Int) := by omega
            have hkk : Keep (fun i => i = b9) W (X5.setCell ⟨b9, 0, none⟩ (.int .i64 ((pre.length : Int) + 1))) := (Keep.of_below (S := fun i => i = b9) HX5.out).trans (Keep.setCell (S := fun i => i = b9) _ _ _ rfl) (fun _ h => h) (fun _ _ h => h)
            have hb9lt : b9 < w10.heap.size := by have := HZ9.out.1; omega
            have hkf := keepsFrom_of_keep (B := w10.heap.size) hkk (fun i e => by omega)
            have hmd : Mid w9.heap.size w10.heap.size W (X5.setCell ⟨b9, 0, none⟩ (.int .i64 ((pre.length : Int) + 1))) := Mid.of_keep hkk HI.out.2.1 (fun k h1 h2 e => by have := HZ9.out.1; omega)
            have hn9 : ∀ i, Foot p m LL i ∨ Foot pc mc Lc i ∨ i = b5 ∨ i = b8 ∨ i = w.heap.size → ¬ i = b9 := by
              have h89 := HZ9.out.2
              rintro i (hi | hi | hi | hi | hi) e
              · have := HD.out.lt i hi; omega
              · have := H8.out.2.2.2.2.2.lt i hi; omega
              · have := H8.out.2.1.lt; omega
              · have := H8.out.2.2.2.1.lt; omega
              · have := H8.out.2.2.1.lt; omega
            have hI1 : BkI w p pc m mc b5 b8 b9 w10.heap.size S LL Lc (pre ++ [x]) (X5.setCell ⟨b9, 0, none⟩ (.int .i64 ((pre.length : Int) + 1))) := by
              refine ⟨(HI.out.1.trans (HX5.out.mono HI.out.1.size)).setCell (p := ⟨b9, 0, none⟩) ?_ _, Nat.le_trans HI.out.2.1 hkk.size, HI.out.2.2.1.kept hkk (hn9 _ (.inr (.inr (.inl rfl)))), HI.out.2.2.2.1.kept hkk (hn9 _ (.inr (.inr (.inr (.inr rfl))))), HI.out.2.2.2.2.1.kept hkk (hn9 _ (.inr (.inr (.inr (.inl rfl))))), ?_, HI.out.2.2.2.2.2.2.1.kept hkk (fun i hi => hn9 i (.inl hi)), HI.out.2.2.2.2.2.2.2.kept hkk (fun i hi => hn9 i (.inr (.inl hi)))⟩
              · show w.heap.size ≤ b9
                have := HZ9.out.2
                have := HZ8.out
                omega
              · rw [List.length_append, List.length_singleton]
                exact hB9.set_ 0 _
            have HE := Lib.hid (And.intro hkf (And.intro hmd hI1))
            clear hkf hmd hI1 hkk hB9 hn9 hS0
            gi_wp2
            exact ⟨HE.out.1, HE.out.2.1, HE.out.2.2⟩
          case done =>
            rintro D xs W hD' rfl ⟨hb, hs, c1, c2, c3, c4, d1, d2⟩ hKd
            have hxl : (((LL.map Fo.nm).zip (LL.map fun f => f.bs.length)).attach).length = LL.length := by simp
            rw [hxl] at c4
            have hDl : D < W.heap.size := (Array.getElem?_eq_some_iff.1 hKd).1
            have q8 : W.cell? ⟨b8, 0, none⟩ = some (.pointer (some ⟨pc, 0, none⟩)) := by rw [c3.cell]; rfl
            have hff := files_any d2
            have HJ := Lib.hid (And.intro hb (And.intro hs (And.intro c1 (And.intro c2 (And.intro c3 (And.intro c4 (And.intro d1 (And.intro d2 hKd))))))))
            have HFF := Lib.hid hff
            clear hb hs c1 c2 c3 c4 d1 d2 hff hxl hKd
            gi_wp2_with fail
            refine ⟨trivial, (callsIn_wide.2 HFF.out).mono ?_⟩
            rintro e X1 ⟨rfl, _, hx1⟩
            have q8' : X1.cell? ⟨b8, 0, none⟩ = some (.pointer (some ⟨pc, 0, none⟩)) := (hx1.cell (World.block_lt_of_cell? W _ q8)).trans q8
            have hff2 := files_any (HJ.out.2.2.2.2.2.2.2.1.below hx1)
            have HFF2 := Lib.hid hff2
            have HX1 := Lib.hid hx1
            clear hx1 q8 hff2 HFF
            gi_wp2_with fail
            refine ⟨trivial, (callsIn_wide.2 HFF2.out).mono ?_⟩
            rintro e X2 ⟨rfl, hnt, hx2⟩
            have hni := hnt.at (Nat.le_refl _) (Nat.le_succ _)
            have hst := each_stops Fence.wide 7 trivial rfl (by omega) X1.heap.size (X1.heap.size + 1) X1.heap.size X2.heap.size (Lc.map Fo.nm) (Lc.map fun f => f.bs.length) (by simp) (by simp; exact H8.out.2.2.2.2.2.few) X2 (Nat.le_refl _) hni
            have HST2 := Lib.hid hst
            have hx02 : Below W.heap.size W X2 := HX1.out.trans (hx2.mono HX1.out.size)
            have hLl : Lc.length = LL.length := by
              have := congrArg List.length HEC.out
              rw [plain_len, crashP_len, plain_len] at this
              exact this
            have hj0 : BkJ w p m b5 b9 D X2.heap.size S LL Lc [] X2 := ⟨HJ.out.1.trans (hx02.mono HJ.out.1.size), Nat.le_refl _, HJ.out.2.2.1.below hx02 HJ.out.2.2.1.lt, HJ.out.2.2.2.1.below hx02 HJ.out.2.2.2.1.lt, by
              have := HJ.out.2.2.2.2.2.1.below hx02 HJ.out.2.2.2.2.2.1.lt
              simpa using this, HJ.out.2.2.2.2.2.2.1.below hx02, (hx02.block D hDl).trans HJ.out.2.2.2.2.2.2.2.2⟩
            have hDX : D < X2.heap.size := Nat.lt_of_lt_of_le hDl hx02.size
            have hm2 : m < X2.heap.size := Nat.lt_of_lt_of_le HORD.out.2.1 (Nat.le_trans HJ.out.2.1 hx02.size)
            have hw2 : w.heap.size ≤ X2.heap.size := Nat.le_trans HORD.out.1 (Nat.le_trans HJ.out.2.1 hx02.size)
            have hb9X : b9 < X1.heap.size := Nat.lt_of_lt_of_le HJ.out.2.2.2.2.2.1.lt HX1.out.size
            have HJ0 := Lib.hid hj0
            have HLL := Lib.hid hLl
            have HXX := Lib.hid hx2
            clear hnt hni hst hj0 q8' hx2 hx02 hLl HFF2
            gi_wp2_with fail
            refine' wpIn_rangeFunc_ownG rfl (by omega) (gf := 51) (lb := #[.pointer (some ⟨X1.heap.size, 0, none⟩), .pointer (some ⟨X1.heap.size + 1, 0, none⟩)]) rfl trivial (enters_of Try.func51 (by kernel_rfl) rfl)
              HST2.out (fun {A B C} h k => Mid.trans h k) (Mid.putObj (Nat.le_refl _)) (Below.refl _ _) (fun _ => rfl)
              (BkJ w p m b5 b9 D X2.heap.size S LL Lc) (fun _ _ _ => False) (BkJ.own hw2 hm2 hDX) (fun _ _ _ _ _ hs _ _ => hs) HJ0.out _ ?assign2 ?body2 ?done2 ?stop2
            case assign2 =>
              intro l x W K hK
              dsimp only [encE]
              gi_wp2
              exact hK
            case stop2 =>
              intro D c pre W hD' _ h _
              exact h.elim
            case body2 =>
              intro l pre x Y hI hlen
              obtain ⟨hb, hs, c1, c2, c4, d1, hKd⟩ := hI
              obtain ⟨k, hk, hx⟩ := ent_is x
              obtain ⟨f, hf, ef⟩ := crash_back HD.out H8.out.2.2.2.2.2 HEC.out hk
              have hx1 : x.1.1 = f.nm := by rw [hx, ef]
              rw [hx1]
              obtain ⟨s, hsn⟩ : ∃ s : ByteArray, s = ⟨f.nm.toArray⟩ := ⟨_, rfl⟩
              have hsl : s.data.toList = f.nm := by rw [hsn]
              rw [← hsn]
              obtain ⟨r1, r2, r3⟩ := d1.readIs hf
              rw [← hsl] at r1 r2
              have hm1 : My 0 Y p S (plain LL) := ⟨m, LL, rfl, d1, fun i _ => Nat.zero_le i⟩
              have RD1 := Lib.hid (my_read_is hm1 s r1 r2)
              have q5 : Y.cell? ⟨b5, 0, none⟩ = some (.pointer (some ⟨p, 0, none⟩)) := by rw [c1.cell]; rfl
              have hpl : pre.length < LL.length := by rw [← HLL.out]; simpa using hlen
              have hLf : LL.length ≤ 64 := HDD.out.few
              have hplI : (pre.length : Int) < (LL.length : Int) := by omega
              have hpl0 : (0 : Int) ≤ (pre.length : Int) := by omega
              have hLI : (LL.length : Int) ≤ 64 := by omega
              have HI := Lib.hid (And.intro hb (And.intro hs (And.intro c1 (And.intro c2 (And.intro c4 (And.intro d1 hKd))))))
              generalize f.bs = bs at *
              clear hb hs c1 c2 c4 d1 hKd hm1 r1 r2 r3 hx hf hk ef hsn hsl hx1 hlen hpl hLf
              gi_wp2_with fail
              refine ⟨trivial, (CallsIn.inRound l (callsIn_wide.2 RD1.out)).mono ?_⟩
              rintro e Y1 ⟨A12, c12, rfl, sl12, hb1⟩
              have HY1 := Lib.hid hb1
              clear hb1 sl12 q5 RD1
              gi_wp2_with fail
              refine ⟨trivial, (CallsIn.inRound l (callsIn_wide.2 (num_any 0 _))).mono ?_⟩
              rintro e wx ⟨rfl, hwx⟩
              rw [hwx]
              clear hwx wx
              have hB9 := HI.out.2.2.2.2.1.below HY1.out HI.out.2.2.2.2.1.lt
              have q9 : Y1.cell? ⟨b9, 0, none⟩ = some (.int .i64 ((LL.length : Int) - (pre.length : Int))) := by rw [hB9.cell]; rfl
              have f9 := hB9.frozen 0
              have hkk : Keep (fun i => i = b9) Y (Y1.setCell ⟨b9, 0, none⟩ (.int .i64 ((LL.length : Int) - (pre.length : Int) - 1))) := (Keep.of_below (S := fun i => i = b9) HY1.out).trans (Keep.setCell (S := fun i => i = b9) _ _ _ rfl) (fun _ h => h) (fun _ _ h => h)
              have hkf := keepsFrom_of_keep (B := X2.heap.size) hkk (fun i e => by have := HXX.out.size; omega)
              have hmd : Mid X1.heap.size X2.heap.size Y (Y1.setCell ⟨b9, 0, none⟩ (.int .i64 ((LL.length : Int) - (pre.length : Int) - 1))) := Mid.of_keep hkk HI.out.2.1 (fun k h1 h2 e => by omega)
              have h89 := HZ9.out.2
              have hJ1 : BkJ w p m b5 b9 D X2.heap.size S LL Lc (pre ++ [x]) (Y1.setCell ⟨b9, 0, none⟩ (.int .i64 ((LL.length : Int) - (pre.length : Int) - 1))) := by
                refine ⟨(HI.out.1.trans (HY1.out.mono HI.out.1.size)).setCell (p := ⟨b9, 0, none⟩) ?_ _, Nat.le_trans HI.out.2.1 hkk.size, HI.out.2.2.1.kept hkk (fun e => by have := H8.out.2.1.lt; omega), HI.out.2.2.2.1.kept hkk (fun e => by have := H8.out.2.2.1.lt; omega), ?_, HI.out.2.2.2.2.2.1.kept hkk (fun i hi e => by have := HD.out.lt i hi; omega), (hkk.block D (Nat.lt_of_lt_of_le hDX HI.out.2.1) (fun e => ?_)).trans HI.out.2.2.2.2.2.2⟩
                · show w.heap.size ≤ b9
                  have := HZ8.out
                  omega
                · rw [List.length_append, List.length_singleton, show (LL.length : Int) - ((pre.length + 1 : Nat) : Int) = (LL.length : Int) - (pre.length : Int) - 1 by omega]
                  exact hB9.set_ 0 _
                · have := HZ9.out.1
                  omega
              have HE := Lib.hid (And.intro hkf (And.intro hmd hJ1))
              clear hkf hmd hJ1 hkk hB9 h89
              gi_wp2
              exact ⟨HE.out.1, HE.out.2.1, HE.out.2.2⟩
            case done2 =>
              rintro D2 xs Y hD2 rfl ⟨hb, hs, c1, c2, c4, d1, hK1⟩ hK2
              have hxl : (((Lc.map Fo.nm).zip (Lc.map fun f => f.bs.length)).attach).length = LL.length := by rw [← HLL.out]; simp
              rw [hxl, Int.sub_self] at c4
              have q9 : Y.cell? ⟨b9, 0, none⟩ = some (.int .i64 0) := by rw [c4.cell]; rfl
              have q4 : Y.cell? ⟨w.heap.size, 0, none⟩ = some (.bool false) := by rw [c2.cell]; rfl
              have f4 := c2.frozen 0
              have hR3 : Blk (Y.setCell ⟨w.heap.size, 0, none⟩ (.bool true)) w.heap.size 4 #[.bool true] := c2.set_ 0 _
              have hb2 : Below w.heap.size w (Y.setCell ⟨w.heap.size, 0, none⟩ (.bool true)) := hb.setCell (p := ⟨w.heap.size, 0, none⟩) (Nat.le_refl _) _
              have hK2' : (Y.setCell ⟨w.heap.size, 0, none⟩ (.bool true)).heap[D2]? = some (.deferred (some [])) := (KeepsOthers.setCell Y ⟨w.heap.size, 0, none⟩ (.bool true)).same D2 _ hK2 rfl
              have hK1' : (Y.setCell ⟨w.heap.size, 0, none⟩ (.bool true)).heap[D]? = some (.deferred (some [])) := (KeepsOthers.setCell Y ⟨w.heap.size, 0, none⟩ (.bool true)).same D _ hK1 rfl
              obtain ⟨Z, hZ⟩ : ∃ Z, Z = Y.setCell ⟨w.heap.size, 0, none⟩ (.bool true) := ⟨_, rfl⟩
              rw [← hZ] at hR3 hb2 hK2' hK1'
              have hg1 := grownBy_putObj' Z D2 (.deferred none)
              have hR4 := hR3.own (B := 0) hg1 (fun r e => by injection e with e; subst e; exact ⟨Nat.zero_le _, _, hK2', rfl⟩)
              have hb3 := hb2.grown hg1 hb2.size (fun k e => by injection e with e; omega)
              have hK1'' : (Z.putObj D2 (.deferred none)).heap[D]? = some (.deferred (some [])) := (hg1.block D (Array.getElem?_eq_some_iff.1 hK1').1 (fun e => by injection e with e; omega)).trans hK1'
              have hg2 := grownBy_putObj' (Z.putObj D2 (.deferred none)) D (.deferred none)
              have hR5 := hR4.own (B := 0) hg2 (fun r e => by injection e with e; subst e; exact ⟨Nat.zero_le _, _, hK1'', rfl⟩)
              have hb4 := hb3.grown hg2 hb3.size (fun k e => by injection e with e; have := HORD.out.1; omega)
              have hc5 : (((Z.putObj D2 (.deferred none)).putObj D (.deferred none))).cell? ⟨w.heap.size, 0, none⟩ = some (.bool true) := by rw [hR5.cell]; rfl
              rw [hZ] at hK2' hK1'' hb4 hc5
              have HK2 := Lib.hid hK2'
              have HK1 := Lib.hid hK1''
              have HE := Lib.hid hb4
              have HC5 := Lib.hid hc5
              clear hZ hR3 hb2 hK2' hK1' hg1 hR4 hb3 hK1'' hg2 hR5 hb4 hc5 hb hs c1 c2 c4 d1 hK1 hK2
              gi_wp2
              refine ⟨by simp, .inl ⟨_, _, rfl, run_takeDeferred HK2.out, ⟨by simp, .inl ⟨_, _, rfl, run_takeDeferred HK1.out, ?_⟩⟩⟩⟩
              have hc5 := HC5.out
              refine ⟨.bool true, ?_, rfl, HE.out⟩
              simp [results, Try.f4, go_sem, hc5]
    · have hkI : decide (300 < (kp.length : Int)) = true := decide_eq_true (by omega)
      have hkI2 : 300 < kp.length := by omega
      clear hkl
      gi_wp2
      refine ⟨.bool true, ?_, rfl, HT2.out.2⟩
      have hc5 := HT2.out.1
      simp [results, Try.f4, go_sem, hc5]
end Go.Proofs.Ytdbkhigocjmfoaa

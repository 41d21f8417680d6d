/-
  The walk of DiskPlays.
-/
import Derived.Test.YtdbkhigocjmfoaaDskPlayM
import Derived.Test.YtdbkhigocjmfoaaDskOpen
namespace Go.Proofs.Ytdbkhigocjmfoaa
open Go.RowKit Go.Maps Go.Shelf
open DskM
set_option linter.unusedVariables false
set_option linter.unusedSimpArgs false
set_option maxRecDepth 100000
attribute [local go_sem] Oper.semAt_some
section
def PlI (w : World) (cn : Nat) (L : List St) (x y z : Value) (wr : World) : Prop :=
  ∃ (i p q : Nat) (S T : Ds) (F : List Fp) (v : Value) (R : List Fr) (A : Nat → Prop), x = .pointer (some ⟨p, 0, none⟩) ∧ y = .pointer (some ⟨q, 0, none⟩) ∧ z = .int .i64 (i : Int) ∧ i ≤ L.length ∧ Pl w cn i wr p q S T F v R A
set_option maxHeartbeats 16000000 in
theorem lawPlays (c : Int) (v1 : Value) (L : List St) (leave : Int) (w : World) (hs : Sts w v1 L) :
    Calls Try.prog 3 #[.int .i64 c, v1, .int .i64 leave] w fun e w' => e = .returned (.bool true) ∧ Below w.heap.size w w' := by
  have hfo : Try.prog.follows .mixedOrders = true := by kernel_rfl
  have HS := Lib.hid hs
  clear hs
  by_cases hc1 : c < 1
  · have hd1 : decide (c < 1) = true := decide_eq_true hc1
    have HN := Lib.hid (new_bad c w (by omega))
    go_enter Try.func3, Try.ntmps3
    go_wp2_with fail
    refine HN.out.mono ?_
    rintro e wn ⟨rfl, hwn⟩
    rw [hwn]
    clear hwn wn
    go_wp2_with fail
    refine (num_any _ _).mono ?_
    rintro e wx ⟨rfl, hwx⟩
    rw [hwx]
    clear hwx wx
    go_wp2_with fail
    refine (known_law w).mono ?_
    rintro e wk ⟨rfl, hbk⟩
    go_wp2
    go_ret
    exact ⟨rfl, hbk⟩
  by_cases hc2 : 16777216 < c
  · have hd1 : decide (c < 1) = false := decide_eq_false hc1
    have hd2 : decide (16777216 < c) = true := decide_eq_true hc2
    have HN := Lib.hid (new_bad c w (by omega))
    go_enter Try.func3, Try.ntmps3
    go_wp2_with fail
    refine HN.out.mono ?_
    rintro e wn ⟨rfl, hwn⟩
    rw [hwn]
    clear hwn wn
    go_wp2_with fail
    refine (num_any _ _).mono ?_
    rintro e wx ⟨rfl, hwx⟩
    rw [hwx]
    clear hwx wx
    go_wp2_with fail
    refine (known_law w).mono ?_
    rintro e wk ⟨rfl, hbk⟩
    go_wp2
    go_ret
    exact ⟨rfl, hbk⟩
  have hd1 : decide (c < 1) = false := decide_eq_false hc1
  have hd2 : decide (16777216 < c) = false := decide_eq_false hc2
  obtain ⟨cn, rfl⟩ : ∃ cn : Nat, c = (cn : Int) := ⟨c.toNat, by omega⟩
  have HCN := Lib.hid (show 1 ≤ cn ∧ cn ≤ 16777216 by omega)
  clear hc1 hc2
  obtain ⟨A0, c0, hv0⟩ : ∃ A0 c0, v1 = .slice A0 L.length c0 := by obtain ⟨A, c, e, _⟩ := HS.out; exact ⟨A, c, e⟩
  subst hv0
  go_enter Try.func3, Try.ntmps3
  go_wp2_with fail
  refine (my_new cn w HCN.out.1 HCN.out.2).mono ?_
  rintro e w1 ⟨p0, rfl, hm1, hb1⟩
  have HM1 := Lib.hid hm1
  have HB1 := Lib.hid hb1
  clear hm1 hb1
  go_wp2_with fail
  refine (much_any _ L 150 (by omega) w1 (HS.out.below HB1.out)).mono ?_
  rintro e w2 ⟨r, rfl, hb2, hfew⟩
  have HB2 := Lib.hid (HB1.out.trans (hb2.mono HB1.out.size))
  have HB12 := Lib.hid hb2
  have HFEW := Lib.hid hfew
  clear hb2 hfew
  cases r with
  | true =>
    go_wp2_with fail
    refine (known_law w2).mono ?_
    rintro e wk ⟨rfl, hbk⟩
    have HE := Lib.hid (HB2.out.trans (hbk.mono HB2.out.size))
    clear hbk
    go_wp2
    go_ret
    exact ⟨rfl, HE.out⟩
  | false =>
    have HL := Lib.hid (HFEW.out rfl)
    clear HFEW
    obtain ⟨w3, hw3⟩ : ∃ w3, w3 = w2.alloc (.cells #[.slice none 0 0, .int .i64 (cn : Int), .int .i64 (-1), .bool false, .int .i64 0] 33) := ⟨_, rfl⟩
    obtain ⟨q0, hq0⟩ : ∃ q0, q0 = w2.heap.size := ⟨_, rfl⟩
    have hb23 : Below w2.heap.size w2 w3 := by rw [hw3]; exact al1 w2 _
    have hsz3 : w3.heap.size = q0 + 1 := by rw [hw3, hq0]; simp
    have hPL : Pl w cn 0 w3 p0 q0 ⟨cn, -1, false, 0⟩ ⟨cn, -1, false, 0⟩ [] (.slice none 0 0) [] (fun j => w.heap.size ≤ j ∧ j < q0) := by
      have hm := (HM1.out.below HB12.out)
      obtain ⟨m, L5, e5, hd5, hf5⟩ := hm
      refine ⟨⟨m, L5, e5, hd5.below hb23, fun j hj => ⟨hf5 j hj, by have := hd5.lt j hj; omega⟩⟩, ⟨by rw [hw3, hq0]; exact Blk.new w2 _ _, OwnF.nil, fun f hf => by cases hf⟩, rfl, ⟨rfl, rfl, rfl, .inl rfl⟩, by show (-1 : Int) ≤ -1; omega, rfl, Nat.le_refl _, HB2.out.trans (hb23.mono HB2.out.size), fun j hj => ⟨hj.1, by omega⟩, ?_⟩
      rintro j (rfl | hj | ⟨f, hf, _⟩)
      · exact ⟨by have := HB2.out.size; omega, fun e => by omega⟩
      · cases hj
      · cases hf
    have HPL := Lib.hid hPL
    have HW3 := Lib.hid hw3
    have HQ0 := Lib.hid hq0
    clear hb23 hsz3 hPL hw3 hq0
    go_wp2_with fail
    rw [← HW3.out, ← HQ0.out]
    refine (num_any _ _).mono ?_
    rintro e wx ⟨rfl, hwx⟩
    rw [hwx]
    clear hwx wx
    go_wp2_with fail
    try rw [← HW3.out, ← HQ0.out]
    refine (looks_any HPL.out.hM.my HPL.out.hR (HPL.out.fit (by omega)) HPL.out.hF HPL.out.sim ⟨#[97]⟩ leave).mono ?_
    rintro e w4 ⟨rfl, hb4⟩
    have HPL4 := Lib.hid (HPL.out.below hb4)
    clear hb4 HPL HW3 HQ0
    go_wp2_with fail
    go_loopw [7, 9, 10] (PlI w cn L) (fun _ _ z _ => L.length - (intOf z).toNat)
    case atStart => exact ⟨0, _, _, _, _, _, _, _, _, rfl, rfl, rfl, Nat.zero_le _, HPL4.out⟩
    case round =>
      obtain ⟨i, p, q, S, T, F, v, R, A, rfl, rfl, rfl, hil, hpl⟩ := hrel
      have HP := Lib.hid hpl
      clear hpl
      by_cases hlt : i < L.length
      · have hiI : (i : Int) < (L.length : Int) := by omega
        have hi0 : (0 : Int) ≤ (i : Int) := by omega
        have hiM : (i : Int) ≤ 150 := by have := HL.out.1; omega
        have HLT := Lib.hid hlt
        have HI150 := Lib.hid (show i + 1 ≤ 1000 by omega)
        obtain ⟨bs, os, eA, hcs, hst⟩ : ∃ b o, A0 = some ⟨b, o, none⟩ ∧ (∀ X, Below w.heap.size w X → StCells X b (o + i * 6) L[i]) ∧ St0 w L[i] := by
          obtain ⟨A9, c9, e, _, ha⟩ := HS.out
          injection e with e1 _ _
          obtain ⟨b, o, e2, hx⟩ := ha (by omega)
          exact ⟨b, o, by rw [e1, e2], fun X hX => (hx i hlt).1.below hX, (hx i hlt).2⟩
        subst eA
        have hlen := (HL.out.2 L[i] (List.getElem_mem hlt)).1
        generalize L[i] = s at hcs hst hlen
        have HSA := Lib.hid (show ∀ X, Below w.heap.size w X → StAt X s from fun X hX => ⟨(hst.below hX).b, (hst.below hX).k, hst.n1, hst.n2, hlen⟩)
        have HCS := Lib.hid hcs
        clear hcs hst hlen hlt
        obtain ⟨r, hr⟩ : ∃ r, doS S F s = r := ⟨_, rfl⟩
        obtain ⟨rT, hrT⟩ : ∃ rT, doR T (pl R) s = rT := ⟨_, rfl⟩
        have HST := Lib.hid (show rT.1 = r.1 ∧ rT.2.2 = r.2.2 ∧ Sim r.2.1 rT.2.1 ∧ -1 ≤ rT.2.1.fuse by
          have h1 := HP.out.sim.step (pl R) s
          have h2 := low_step HP.out.low (pl R) s
          rw [hrT] at h1 h2
          have e9 := HP.out.hF
          rw [e9, hr] at h1
          exact ⟨h1.1, h1.2.1, h1.2.2, h2⟩)
        have HNU := Lib.hid (show r.2.1.cap = cn ∧ r.2.1.wr ≤ i + 1 by
          have := doS_nums S F s
          rw [hr] at this
          have h1 := HP.out.cap
          have h2 := HP.out.wrs
          omega)
        have HR := Lib.hid (And.intro hr hrT)
        clear hr hrT
        go_wp2_with fail
        refine (mx_copy HP.out.hM).mono ?_
        rintro e w5 ⟨p2, rfl, hm5, hb5⟩
        have HP5 := Lib.hid (HP.out.below hb5)
        have HWAS := Lib.hid hm5
        have HZ5 := Lib.hid hb5.size
        have HAW := Lib.hid (fun j (hj : A j) => (HP.out.hA j hj).2)
        have HRW := Lib.hid HP.out.hR.lt
        clear hm5 hb5 HP
        obtain ⟨e0, e1, e2, e3, e4, e5⟩ := HCS.out w5 HP5.out.bel
        go_wp2_with fail
        refine (mx_do (A := fun j => A j ∨ w5.heap.size ≤ j) (HP5.out.hM.mono (fun j hj _ => .inl hj)) (fun j hj => .inr hj) (by have := HP5.out.wrs; omega) s (HSA.out _ HP5.out.bel) HR.out.1).mono ?_
        rintro e w6 ⟨p3, rfl, hm6, hk6⟩
        have HD6 := Lib.hid (HP5.out.did hm6 hk6)
        have hws6 := HWAS.out.kept hk6 (fun j hj e => by
          rcases e with e | e
          · have := HAW.out j e; omega
          · omega)
        have HWAS6 := Lib.hid hws6
        have HZ6 := Lib.hid hk6.size
        clear hm6 hk6 hws6 HWAS e0 e1 e2 e3 e4 e5
        go_wp2_with fail
        refine (refCopy_any HD6.out.2.1 (by have := (HP5.out.fit (by omega)).few; rw [pl_len] at this; exact this)).mono ?_
        rintro e w7 ⟨q2, v2, rfl, hr7, hb7, hq7, hv7⟩
        have HD7 := Lib.hid (HD6.out.1.below hb7)
        have HR7 := Lib.hid (HD6.out.2.1.below hb7)
        have HB7 := Lib.hid (HD6.out.2.2.trans (hb7.mono HD6.out.2.2.size))
        have HWAS7 := Lib.hid (HWAS6.out.below hb7)
        have HBEF := Lib.hid hr7
        have HQ7 := Lib.hid (And.intro hq7 hv7)
        have HZ7 := Lib.hid hb7.size
        clear hr7 hb7 hq7 hv7 HWAS6 HD6
        obtain ⟨e0, e1, e2, e3, e4, e5⟩ := HCS.out w7 HB7.out
        go_wp2_with fail
        refine (refDo_any HR7.out (HP5.out.fit (by omega)) s (HSA.out _ HB7.out)).mono ?_
        rintro e w8 ⟨q3, v3, R3, he, hr8, hp8, hk8, hf8⟩
        rw [HR.out.2] at he hr8 hp8
        rw [HST.out.1] at he
        subst he
        have hRF : ∀ j, (j = q ∨ v.ownBlock = some j) → RFoot q v R j := fun j hj => hj.elim (fun h => .inl h) (fun h => .inr (.inl h))
        have hRL : ∀ j, RFoot q v R j → j < wr.heap.size ∧ ¬ A j ∧ w.heap.size ≤ j := fun j hj => ⟨HRW.out j hj, (HP5.out.hQ j hj).2, (HP5.out.hQ j hj).1⟩
        have hd8 := HD7.out.kept hk8 (fun j hj e => by
          have h1 := hRL j (hRF j e)
          have := HZ5.out
          rcases hj.1 with h | h
          · exact h1.2.1 h
          · omega)
        have hws8 := HWAS7.out.kept hk8 (fun j hj e => by
          have h1 := hRL j (hRF j e)
          omega)
        have hbf8 := HBEF.out.kept hk8 (fun j hj e => by
          have h1 := hRL j (hRF j e)
          have := HZ5.out
          have := HZ6.out
          rcases hj with hj | hj | ⟨f, hf, hj⟩
          · have := HQ7.out.1; omega
          · have := HQ7.out.2 j hj; omega
          · rcases e with e | e
            · exact (HR7.out.bytq hf j hj).1 e
            · exact (HR7.out.bytq hf j hj).2 e)
        have hb8 : Below w.heap.size w w8 := Keep.below HB7.out hk8 HB7.out.size (fun j hj => (hRL j (hRF j hj)).2.2)
        have hsz8 := hk8.size
        have HP8 := Lib.hid (show Pl w cn (i + 1) w8 p3 q3 r.2.1 rT.2.1 r.2.2 v3 R3 (fun j => (A j ∨ w5.heap.size ≤ j) ∧ j < w6.heap.size) from ⟨hd8, hr8, by rw [hp8]; exact HST.out.2.1, HST.out.2.2.1, HST.out.2.2.2, HNU.out.1, HNU.out.2, hb8, fun j hj => by
          have := HZ7.out
          have := HP5.out.bel.size
          refine ⟨?_, by omega⟩
          rcases hj.1 with h | h
          · exact (HP5.out.hA j h).1
          · omega, fun j hj => by
          have := HP5.out.bel.size
          have := HZ5.out
          have := HZ6.out
          have := HZ7.out
          rcases hf8 j hj with h | h
          · have h1 := hRL j h
            refine ⟨h1.2.2, fun e => ?_⟩
            rcases e.1 with e | e
            · exact h1.2.1 e
            · omega
          · exact ⟨by omega, fun e => by omega⟩⟩)
        have HWAS8 := Lib.hid hws8
        have HBEF8 := Lib.hid hbf8
        have HZ8 := Lib.hid hsz8
        have HFIT := Lib.hid (HP5.out.fit (by omega))
        have HOLD := Lib.hid (And.intro HP5.out.hF (And.intro HP5.out.sim HP5.out.cap))
        clear hd8 hws8 hbf8 hb8 hsz8 hr8 hp8 hk8 hf8 hRF hRL HWAS7 HBEF HR7 HD7 HP5 e0 e1 e2 e3 e4 e5
        obtain ⟨bb, hbb⟩ : ∃ bb : Bool, decide (r.2.2 = F) = bb := ⟨_, rfl⟩
        obtain ⟨mm, hmm⟩ : ∃ mm : Bool, mayB s.nm.data.toList = mm := ⟨_, rfl⟩
        have HLK1 := Lib.hid (show ∀ X, Below w8.heap.size w8 X → Calls Try.prog 11 #[.pointer (some ⟨p3, 0, none⟩), .pointer (some ⟨q3, 0, none⟩), .string s.nm, .int .i64 leave] X fun e w' => e = .returned (.bool true) ∧ Below X.heap.size X w' from fun X hX => by
          have h8 := HP8.out.below hX
          exact looks_any h8.hM.my h8.hR (h8.fit (by have := HI150.out; omega)) h8.hF h8.sim s.nm leave)
        have HLK2 := Lib.hid (show ∀ X, Below w8.heap.size w8 X → Calls Try.prog 11 #[.pointer (some ⟨p2, 0, none⟩), .pointer (some ⟨q2, 0, none⟩), .string s.nm, .int .i64 0] X fun e w' => e = .returned (.bool true) ∧ Below X.heap.size X w' from fun X hX =>
          looks_any (HWAS8.out.below hX).my (HBEF8.out.below hX) HFIT.out HOLD.out.1 HOLD.out.2.1 s.nm 0)
        have HSM1 := Lib.hid (show ∀ X, Below w8.heap.size w8 X → Calls Try.prog 16 #[.pointer (some ⟨p3, 0, none⟩), .pointer (some ⟨p2, 0, none⟩)] X fun e w' => e = .returned (.bool bb) ∧ Below X.heap.size X w' from fun X hX => by
          have hsm := mx_same ((HP8.out.below hX).hM) (HWAS8.out.below hX)
          have e1 : decide (r.2.1.cap = S.cap ∧ r.2.2 = F) = bb := by rw [← hbb, HNU.out.1, HOLD.out.2.2]; simp
          rw [e1] at hsm
          exact hsm)
        have HSM2 := Lib.hid (show ∀ X, Below w8.heap.size w8 X → Calls Try.prog 17 #[.pointer (some ⟨q3, 0, none⟩), .pointer (some ⟨q2, 0, none⟩)] X fun e w' => e = .returned (.bool bb) ∧ Below X.heap.size X w' from fun X hX => by
          have h8 := HP8.out.below hX
          have f8 := (h8.fit (by have := HI150.out; omega)).few
          have f0 := HFIT.out.few
          rw [pl_len] at f8 f0
          have hsm := refSame_any h8.hR (HBEF8.out.below hX) f8 f0
          have e1 : sameQ rT.2.1 T (pl R3) (pl R) = bb := by
            unfold sameQ
            rw [← hbb, h8.hF, HOLD.out.1, h8.sim.1, HOLD.out.2.1.1, HNU.out.1, HOLD.out.2.2]
            simp
          rw [e1] at hsm
          exact hsm)
        have HMN1 := Lib.hid (show ∀ X, Calls Try.prog 18 #[.string s.nm] X fun e w' => e = .returned (.bool mm) ∧ Below X.heap.size X w' from fun X => by have := mayName_any s.nm X; rw [hmm] at this; exact this)
        have HMN2 := Lib.hid (show ∀ X, Calls Try.prog 19 #[.string s.nm] X fun e w' => e = .returned (.bool mm) ∧ Below X.heap.size X w' from fun X => by have := refMay_any s.nm X; rw [hmm] at this; exact this)
        have HC2 := Lib.hid (show ∀ X, Below w8.heap.size w8 X → X.cell? ⟨bs, os + i * 6 + 2, none⟩ = some (.string s.nm) from fun X hX => (HCS.out X (HP8.out.bel.trans (hX.mono HP8.out.bel.size))).2.2.1)
        clear hbb hmm HWAS8 HBEF8 HFIT HOLD
        go_wp2_with fail
        have HB9 := Lib.hid (show ∀ X, Below w8.drew.heap.size w8.drew X → Below w8.heap.size w8 X from fun X hX => ((Below.refl _ _).drew).trans hX)
        refine wp_region_held_drew (S := fun X => Below w8.drew.heap.size w8.drew X) hfo (Below.refl _ _) (fun hS0 => ?_)
        generalize w8.drew = Z0 at hS0 HB9 ⊢
        refine' wpAnyH_take (i := 0) (oi := ⟨some 84, _, _, _, _, _⟩) (v := _) rfl (by kernel_rfl) (by kernel_rfl) (by kernel_rfl) (fun _ _ _ h => h) (Or.inl ⟨by rfl, ?y0P⟩) hS0 ?r0P
        case y0P => (intro w' hSw; have s3 := HC2.out w' (HB9.out w' hSw); go_simp; try rfl)
        try simp only [Act.put, List.setIfInBounds_toArray, List.set_cons_zero, List.set_cons_succ]
        refine' wpAnyH_take (i := 1) (oi := ⟨some 85, _, _, _, _, _⟩) (v := _) rfl (by kernel_rfl) (by kernel_rfl) (by kernel_rfl) (fun _ _ _ h => h) (Or.inl ⟨by rfl, ?y1P⟩) hS0 ?r1P
        case y1P => (intro w' hSw; have s3 := HC2.out w' (HB9.out w' hSw); go_simp; try rfl)
        try simp only [Act.put, List.setIfInBounds_toArray, List.set_cons_zero, List.set_cons_succ]
        refine' wpAnyH_take (i := 2) (oi := ⟨some 86, _, _, _, _, _⟩) (v := _) rfl (by kernel_rfl) (by kernel_rfl) (by kernel_rfl) (fun _ _ _ h => h) (Or.inl ⟨by rfl, ?y2P⟩) hS0 ?r2P
        case y2P => (intro w' hSw; have s3 := HC2.out w' (HB9.out w' hSw); go_simp; try rfl)
        try simp only [Act.put, List.setIfInBounds_toArray, List.set_cons_zero, List.set_cons_succ]
        refine' wpAnyH_take (i := 3) (oi := ⟨some 87, _, _, _, _, _⟩) (v := _) rfl (by kernel_rfl) (by kernel_rfl) (by kernel_rfl) (fun _ _ _ h => h) (Or.inl ⟨by rfl, ?y3P⟩) hS0 ?r3P
        case y3P => (intro w' hSw; have s3 := HC2.out w' (HB9.out w' hSw); go_simp; try rfl)
        try simp only [Act.put, List.setIfInBounds_toArray, List.set_cons_zero, List.set_cons_succ]
        refine' wpAnyH_take (i := 4) (oi := ⟨some 88, _, _, _, _, _⟩) (v := _) rfl (by kernel_rfl) (by kernel_rfl) (by kernel_rfl) (fun _ _ _ h => h) (Or.inl ⟨by rfl, ?y4P⟩) hS0 ?r4P
        case y4P => (intro w' hSw; have s3 := HC2.out w' (HB9.out w' hSw); go_simp; try rfl)
        try simp only [Act.put, List.setIfInBounds_toArray, List.set_cons_zero, List.set_cons_succ]
        refine' wpAnyH_take (i := 5) (oi := ⟨some 89, _, _, _, _, _⟩) (v := _) rfl (by kernel_rfl) (by kernel_rfl) (by kernel_rfl) (fun _ _ _ h => h) (Or.inl ⟨by rfl, ?y5P⟩) hS0 ?r5P
        case y5P => (intro w' hSw; have s3 := HC2.out w' (HB9.out w' hSw); go_simp; try rfl)
        try simp only [Act.put, List.setIfInBounds_toArray, List.set_cons_zero, List.set_cons_succ]
        refine' wpAnyH_take (i := 6) (oi := ⟨some 90, _, _, _, _, _⟩) (v := _) rfl (by kernel_rfl) (by kernel_rfl) (by kernel_rfl) (fun _ _ _ h => h) (Or.inl ⟨by rfl, ?y6P⟩) hS0 ?r6P
        case y6P => (intro w' hSw; have s3 := HC2.out w' (HB9.out w' hSw); go_simp; try rfl)
        try simp only [Act.put, List.setIfInBounds_toArray, List.set_cons_zero, List.set_cons_succ]
        refine' wpAnyH_take (i := 7) (oi := ⟨some 91, _, _, _, _, _⟩) (v := _) rfl (by kernel_rfl) (by kernel_rfl) (by kernel_rfl) (fun _ _ _ h => h) (Or.inl ⟨by rfl, ?y7P⟩) hS0 ?r7P
        case y7P => (intro w' hSw; have s3 := HC2.out w' (HB9.out w' hSw); go_simp; try rfl)
        try simp only [Act.put, List.setIfInBounds_toArray, List.set_cons_zero, List.set_cons_succ]
        refine' wpAnyH_take (i := 8) (oi := ⟨some 92, _, _, _, _, _⟩) (v := _) rfl (by kernel_rfl) (by kernel_rfl) (by kernel_rfl) (fun _ _ _ h => h) (Or.inl ⟨by rfl, ?y8P⟩) hS0 ?r8P
        case y8P => (intro w' hSw; have s3 := HC2.out w' (HB9.out w' hSw); go_simp; try rfl)
        try simp only [Act.put, List.setIfInBounds_toArray, List.set_cons_zero, List.set_cons_succ]
        refine' wpAnyH_take (i := 9) (oi := ⟨some 93, _, _, _, _, _⟩) (v := _) rfl (by kernel_rfl) (by kernel_rfl) (by kernel_rfl) (fun _ _ _ h => h) (Or.inl ⟨by rfl, ?y9P⟩) hS0 ?r9P
        case y9P => (intro w' hSw; have s3 := HC2.out w' (HB9.out w' hSw); go_simp; try rfl)
        try simp only [Act.put, List.setIfInBounds_toArray, List.set_cons_zero, List.set_cons_succ]
        refine' wpAnyH_take (i := 10) (oi := ⟨some 94, _, _, _, _, _⟩) (v := _) rfl (by kernel_rfl) (by kernel_rfl) (by kernel_rfl) (fun _ _ _ h => h) (Or.inl ⟨by rfl, ?y10P⟩) hS0 ?r10P
        case y10P => (intro w' hSw; have s3 := HC2.out w' (HB9.out w' hSw); go_simp; try rfl)
        try simp only [Act.put, List.setIfInBounds_toArray, List.set_cons_zero, List.set_cons_succ]
        refine' wpAnyH_take (i := 11) (oi := ⟨some 95, _, _, _, _, _⟩) (v := _) rfl (by kernel_rfl) (by kernel_rfl) (by kernel_rfl) (fun _ _ _ h => h) (Or.inl ⟨by rfl, ?y11P⟩) hS0 ?r11P
        case y11P => (intro w' hSw; have s3 := HC2.out w' (HB9.out w' hSw); go_simp; try rfl)
        try simp only [Act.put, List.setIfInBounds_toArray, List.set_cons_zero, List.set_cons_succ]
        refine' wpAnyH_take (i := 12) (oi := ⟨some 96, _, _, _, _, _⟩) (v := _) rfl (by kernel_rfl) (by kernel_rfl) (by kernel_rfl) (fun _ _ _ h => h) (Or.inl ⟨by rfl, ?y12P⟩) hS0 ?r12P
        case y12P => (intro w' hSw; have s3 := HC2.out w' (HB9.out w' hSw); go_simp; try rfl)
        try simp only [Act.put, List.setIfInBounds_toArray, List.set_cons_zero, List.set_cons_succ]
        refine' wpAnyH_take (i := 13) (oi := ⟨some 97, _, _, _, _, _⟩) (v := _) rfl (by kernel_rfl) (by kernel_rfl) (by kernel_rfl) (fun _ _ _ h => h) (Or.inl ⟨by rfl, ?y13P⟩) hS0 ?r13P
        case y13P => (intro w' hSw; have s3 := HC2.out w' (HB9.out w' hSw); go_simp; try rfl)
        try simp only [Act.put, List.setIfInBounds_toArray, List.set_cons_zero, List.set_cons_succ]
        refine' wpAnyH_take (i := 14) (oi := ⟨some 98, _, _, _, _, _⟩) (v := _) rfl (by kernel_rfl) (by kernel_rfl) (by kernel_rfl) (fun _ _ _ h => h) (Or.inl ⟨by rfl, ?y14P⟩) hS0 ?r14P
        case y14P => (intro w' hSw; have s3 := HC2.out w' (HB9.out w' hSw); go_simp; try rfl)
        try simp only [Act.put, List.setIfInBounds_toArray, List.set_cons_zero, List.set_cons_succ]
        refine' wpAnyH_take (i := 15) (oi := ⟨some 99, _, _, _, _, _⟩) (v := _) rfl (by kernel_rfl) (by kernel_rfl) (by kernel_rfl) (fun _ _ _ h => h) (Or.inl ⟨by rfl, ?y15P⟩) hS0 ?r15P
        case y15P => (intro w' hSw; have s3 := HC2.out w' (HB9.out w' hSw); go_simp; try rfl)
        try simp only [Act.put, List.setIfInBounds_toArray, List.set_cons_zero, List.set_cons_succ]
        refine held_one (i := 16) (by kernel_rfl) rfl (fun K hK => ?_)
        go_simp
        refine (HLK1.out _ (HB9.out _ hS0)).mono ?_
        rintro e Z1 ⟨rfl, hz⟩
        have hS1 := hS0.trans (hz.mono hS0.size)
        clear hz
        refine hK.out _ _ hS1 (fun _ => ?_)
        clear hK K
        try simp only [Act.put, List.setIfInBounds_toArray, List.set_cons_zero, List.set_cons_succ]
        refine' wpAnyH_take (i := 17) (oi := ⟨some 101, _, _, _, _, _⟩) (v := _) rfl (by kernel_rfl) (by kernel_rfl) (by kernel_rfl) (fun _ _ _ h => h) (Or.inl ⟨by rfl, ?y17P⟩) hS1 ?r17P
        case y17P => (intro w' hSw; have s3 := HC2.out w' (HB9.out w' hSw); go_simp; try rfl)
        try simp only [Act.put, List.setIfInBounds_toArray, List.set_cons_zero, List.set_cons_succ]
        refine' wpAnyH_take (i := 18) (oi := ⟨some 102, _, _, _, _, _⟩) (v := _) rfl (by kernel_rfl) (by kernel_rfl) (by kernel_rfl) (fun _ _ _ h => h) (Or.inl ⟨by rfl, ?y18P⟩) hS1 ?r18P
        case y18P => (intro w' hSw; have s3 := HC2.out w' (HB9.out w' hSw); go_simp; try rfl)
        try simp only [Act.put, List.setIfInBounds_toArray, List.set_cons_zero, List.set_cons_succ]
        refine' wpAnyH_take (i := 19) (oi := ⟨some 103, _, _, _, _, _⟩) (v := _) rfl (by kernel_rfl) (by kernel_rfl) (by kernel_rfl) (fun _ _ _ h => h) (Or.inl ⟨by rfl, ?y19P⟩) hS1 ?r19P
        case y19P => (intro w' hSw; have s3 := HC2.out w' (HB9.out w' hSw); go_simp; try rfl)
        try simp only [Act.put, List.setIfInBounds_toArray, List.set_cons_zero, List.set_cons_succ]
        refine' wpAnyH_take (i := 20) (oi := ⟨some 104, _, _, _, _, _⟩) (v := _) rfl (by kernel_rfl) (by kernel_rfl) (by kernel_rfl) (fun _ _ _ h => h) (Or.inl ⟨by rfl, ?y20P⟩) hS1 ?r20P
        case y20P => (intro w' hSw; have s3 := HC2.out w' (HB9.out w' hSw); go_simp; try rfl)
        try simp only [Act.put, List.setIfInBounds_toArray, List.set_cons_zero, List.set_cons_succ]
        refine' wpAnyH_take (i := 21) (oi := ⟨some 105, _, _, _, _, _⟩) (v := _) rfl (by kernel_rfl) (by kernel_rfl) (by kernel_rfl) (fun _ _ _ h => h) (Or.inl ⟨by rfl, ?y21P⟩) hS1 ?r21P
        case y21P => (intro w' hSw; have s3 := HC2.out w' (HB9.out w' hSw); go_simp; try rfl)
        try simp only [Act.put, List.setIfInBounds_toArray, List.set_cons_zero, List.set_cons_succ]
        refine' wpAnyH_take (i := 23) (oi := ⟨some 107, _, _, _, _, _⟩) (v := _) rfl (by kernel_rfl) (by kernel_rfl) (by kernel_rfl) (fun _ _ _ h => h) (Or.inl ⟨by rfl, ?y23P⟩) hS1 ?r23P
        case y23P => (intro w' hSw; have s3 := HC2.out w' (HB9.out w' hSw); go_simp; try rfl)
        try simp only [Act.put, List.setIfInBounds_toArray, List.set_cons_zero, List.set_cons_succ]
        refine' wpAnyH_take (i := 24) (oi := ⟨some 108, _, _, _, _, _⟩) (v := _) rfl (by kernel_rfl) (by kernel_rfl) (by kernel_rfl) (fun _ _ _ h => h) (Or.inl ⟨by rfl, ?y24P⟩) hS1 ?r24P
        case y24P => (intro w' hSw; have s3 := HC2.out w' (HB9.out w' hSw); go_simp; try rfl)
        try simp only [Act.put, List.setIfInBounds_toArray, List.set_cons_zero, List.set_cons_succ]
        refine held_one (i := 22) (by kernel_rfl) rfl (fun K hK => ?_)
        go_simp
        refine (HSM1.out _ (HB9.out _ hS1)).mono ?_
        rintro e Z2 ⟨rfl, hz⟩
        have hS2 := hS1.trans (hz.mono hS1.size)
        clear hz
        refine hK.out _ _ hS2 (fun _ => ?_)
        clear hK K
        try simp only [Act.put, List.setIfInBounds_toArray, List.set_cons_zero, List.set_cons_succ]
        refine held_one (i := 25) (by kernel_rfl) rfl (fun K hK => ?_)
        go_simp
        refine (HSM2.out _ (HB9.out _ hS2)).mono ?_
        rintro e Z3 ⟨rfl, hz⟩
        have hS3 := hS2.trans (hz.mono hS2.size)
        clear hz
        refine hK.out _ _ hS3 (fun _ => ?_)
        clear hK K
        try simp only [Act.put, List.setIfInBounds_toArray, List.set_cons_zero, List.set_cons_succ]
        refine' wpAnyH_take (i := 26) (oi := ⟨some 110, _, _, _, _, _⟩) (v := _) rfl (by kernel_rfl) (by kernel_rfl) (by kernel_rfl) (fun _ _ _ h => h) (Or.inl ⟨by rfl, ?y26P⟩) hS3 ?r26P
        case y26P => (intro w' hSw; have s3 := HC2.out w' (HB9.out w' hSw); go_simp; try rfl)
        try simp only [Act.put, List.setIfInBounds_toArray, List.set_cons_zero, List.set_cons_succ]
        refine' wpAnyH_take (i := 27) (oi := ⟨some 111, _, _, _, _, _⟩) (v := _) rfl (by kernel_rfl) (by kernel_rfl) (by kernel_rfl) (fun _ _ _ h => h) (Or.inl ⟨by rfl, ?y27P⟩) hS3 ?r27P
        case y27P => (intro w' hSw; have s3 := HC2.out w' (HB9.out w' hSw); go_simp; try rfl)
        try simp only [Act.put, List.setIfInBounds_toArray, List.set_cons_zero, List.set_cons_succ]
        refine' wpAnyH_take (i := 28) (oi := ⟨some 112, _, _, _, _, _⟩) (v := _) rfl (by kernel_rfl) (by kernel_rfl) (by kernel_rfl) (fun _ _ _ h => h) (Or.inl ⟨by rfl, ?y28P⟩) hS3 ?r28P
        case y28P => (intro w' hSw; have s3 := HC2.out w' (HB9.out w' hSw); go_simp; try rfl)
        try simp only [Act.put, List.setIfInBounds_toArray, List.set_cons_zero, List.set_cons_succ]
        refine' wpAnyH_take (i := 29) (oi := ⟨some 113, _, _, _, _, _⟩) (v := _) rfl (by kernel_rfl) (by kernel_rfl) (by kernel_rfl) (fun _ _ _ h => h) (Or.inl ⟨by rfl, ?y29P⟩) hS3 ?r29P
        case y29P => (intro w' hSw; have s3 := HC2.out w' (HB9.out w' hSw); go_simp; try rfl)
        try simp only [Act.put, List.setIfInBounds_toArray, List.set_cons_zero, List.set_cons_succ]
        refine' wpAnyH_take (i := 30) (oi := ⟨some 114, _, _, _, _, _⟩) (v := _) rfl (by kernel_rfl) (by kernel_rfl) (by kernel_rfl) (fun _ _ _ h => h) (Or.inl ⟨by rfl, ?y30P⟩) hS3 ?r30P
        case y30P => (intro w' hSw; have s3 := HC2.out w' (HB9.out w' hSw); go_simp; try rfl)
        try simp only [Act.put, List.setIfInBounds_toArray, List.set_cons_zero, List.set_cons_succ]
        refine' wpAnyH_take (i := 31) (oi := ⟨some 115, _, _, _, _, _⟩) (v := _) rfl (by kernel_rfl) (by kernel_rfl) (by kernel_rfl) (fun _ _ _ h => h) (Or.inl ⟨by rfl, ?y31P⟩) hS3 ?r31P
        case y31P => (intro w' hSw; have s3 := HC2.out w' (HB9.out w' hSw); go_simp; try rfl)
        try simp only [Act.put, List.setIfInBounds_toArray, List.set_cons_zero, List.set_cons_succ]
        refine' wpAnyH_take (i := 32) (oi := ⟨some 116, _, _, _, _, _⟩) (v := _) rfl (by kernel_rfl) (by kernel_rfl) (by kernel_rfl) (fun _ _ _ h => h) (Or.inl ⟨by rfl, ?y32P⟩) hS3 ?r32P
        case y32P => (intro w' hSw; have s3 := HC2.out w' (HB9.out w' hSw); go_simp; try rfl)
        try simp only [Act.put, List.setIfInBounds_toArray, List.set_cons_zero, List.set_cons_succ]
        refine' wpAnyH_take (i := 33) (oi := ⟨some 117, _, _, _, _, _⟩) (v := _) rfl (by kernel_rfl) (by kernel_rfl) (by kernel_rfl) (fun _ _ _ h => h) (Or.inl ⟨by rfl, ?y33P⟩) hS3 ?r33P
        case y33P => (intro w' hSw; have s3 := HC2.out w' (HB9.out w' hSw); go_simp; try rfl)
        try simp only [Act.put, List.setIfInBounds_toArray, List.set_cons_zero, List.set_cons_succ]
        refine' wpAnyH_take (i := 34) (oi := ⟨some 118, _, _, _, _, _⟩) (v := _) rfl (by kernel_rfl) (by kernel_rfl) (by kernel_rfl) (fun _ _ _ h => h) (Or.inl ⟨by rfl, ?y34P⟩) hS3 ?r34P
        case y34P => (intro w' hSw; have s3 := HC2.out w' (HB9.out w' hSw); go_simp; try rfl)
        try simp only [Act.put, List.setIfInBounds_toArray, List.set_cons_zero, List.set_cons_succ]
        refine' wpAnyH_take (i := 35) (oi := ⟨some 119, _, _, _, _, _⟩) (v := _) rfl (by kernel_rfl) (by kernel_rfl) (by kernel_rfl) (fun _ _ _ h => h) (Or.inl ⟨by rfl, ?y35P⟩) hS3 ?r35P
        case y35P => (intro w' hSw; have s3 := HC2.out w' (HB9.out w' hSw); go_simp; try rfl)
        try simp only [Act.put, List.setIfInBounds_toArray, List.set_cons_zero, List.set_cons_succ]
        refine held_one (i := 36) (by kernel_rfl) rfl (fun K hK => ?_)
        go_simp
        refine (HLK2.out _ (HB9.out _ hS3)).mono ?_
        rintro e Z4 ⟨rfl, hz⟩
        have hS4 := hS3.trans (hz.mono hS3.size)
        clear hz
        refine hK.out _ _ hS4 (fun _ => ?_)
        clear hK K
        try simp only [Act.put, List.setIfInBounds_toArray, List.set_cons_zero, List.set_cons_succ]
        refine' wpAnyH_take (i := 37) (oi := ⟨some 121, _, _, _, _, _⟩) (v := _) rfl (by kernel_rfl) (by kernel_rfl) (by kernel_rfl) (fun _ _ _ h => h) (Or.inl ⟨by rfl, ?y37P⟩) hS4 ?r37P
        case y37P => (intro w' hSw; have s3 := HC2.out w' (HB9.out w' hSw); go_simp; try rfl)
        try simp only [Act.put, List.setIfInBounds_toArray, List.set_cons_zero, List.set_cons_succ]
        refine' wpAnyH_take (i := 38) (oi := ⟨some 122, _, _, _, _, _⟩) (v := _) rfl (by kernel_rfl) (by kernel_rfl) (by kernel_rfl) (fun _ _ _ h => h) (Or.inl ⟨by rfl, ?y38P⟩) hS4 ?r38P
        case y38P => (intro w' hSw; have s3 := HC2.out w' (HB9.out w' hSw); go_simp; try rfl)
        try simp only [Act.put, List.setIfInBounds_toArray, List.set_cons_zero, List.set_cons_succ]
        refine' wpAnyH_take (i := 39) (oi := ⟨some 123, _, _, _, _, _⟩) (v := _) rfl (by kernel_rfl) (by kernel_rfl) (by kernel_rfl) (fun _ _ _ h => h) (Or.inl ⟨by rfl, ?y39P⟩) hS4 ?r39P
        case y39P => (intro w' hSw; have s3 := HC2.out w' (HB9.out w' hSw); go_simp; try rfl)
        try simp only [Act.put, List.setIfInBounds_toArray, List.set_cons_zero, List.set_cons_succ]
        refine' wpAnyH_take (i := 40) (oi := ⟨some 124, _, _, _, _, _⟩) (v := _) rfl (by kernel_rfl) (by kernel_rfl) (by kernel_rfl) (fun _ _ _ h => h) (Or.inl ⟨by rfl, ?y40P⟩) hS4 ?r40P
        case y40P => (intro w' hSw; have s3 := HC2.out w' (HB9.out w' hSw); go_simp; try rfl)
        try simp only [Act.put, List.setIfInBounds_toArray, List.set_cons_zero, List.set_cons_succ]
        refine' wpAnyH_take (i := 41) (oi := ⟨some 125, _, _, _, _, _⟩) (v := _) rfl (by kernel_rfl) (by kernel_rfl) (by kernel_rfl) (fun _ _ _ h => h) (Or.inl ⟨by rfl, ?y41P⟩) hS4 ?r41P
        case y41P => (intro w' hSw; have s3 := HC2.out w' (HB9.out w' hSw); go_simp; try rfl)
        try simp only [Act.put, List.setIfInBounds_toArray, List.set_cons_zero, List.set_cons_succ]
        refine' wpAnyH_take (i := 42) (oi := ⟨some 126, _, _, _, _, _⟩) (v := _) rfl (by kernel_rfl) (by kernel_rfl) (by kernel_rfl) (fun _ _ _ h => h) (Or.inl ⟨by rfl, ?y42P⟩) hS4 ?r42P
        case y42P => (intro w' hSw; have s3 := HC2.out w' (HB9.out w' hSw); go_simp; try rfl)
        try simp only [Act.put, List.setIfInBounds_toArray, List.set_cons_zero, List.set_cons_succ]
        refine' wpAnyH_take (i := 43) (oi := ⟨some 127, _, _, _, _, _⟩) (v := _) rfl (by kernel_rfl) (by kernel_rfl) (by kernel_rfl) (fun _ _ _ h => h) (Or.inl ⟨by rfl, ?y43P⟩) hS4 ?r43P
        case y43P => (intro w' hSw; have s3 := HC2.out w' (HB9.out w' hSw); go_simp; try rfl)
        try simp only [Act.put, List.setIfInBounds_toArray, List.set_cons_zero, List.set_cons_succ]
        refine' wpAnyH_take (i := 44) (oi := ⟨some 128, _, _, _, _, _⟩) (v := _) rfl (by kernel_rfl) (by kernel_rfl) (by kernel_rfl) (fun _ _ _ h => h) (Or.inl ⟨by rfl, ?y44P⟩) hS4 ?r44P
        case y44P => (intro w' hSw; have s3 := HC2.out w' (HB9.out w' hSw); go_simp; try rfl)
        try simp only [Act.put, List.setIfInBounds_toArray, List.set_cons_zero, List.set_cons_succ]
        refine' wpAnyH_take (i := 46) (oi := ⟨some 130, _, _, _, _, _⟩) (v := _) rfl (by kernel_rfl) (by kernel_rfl) (by kernel_rfl) (fun _ _ _ h => h) (Or.inl ⟨by rfl, ?y46P⟩) hS4 ?r46P
        case y46P => (intro w' hSw; have s3 := HC2.out w' (HB9.out w' hSw); go_simp; try rfl)
        try simp only [Act.put, List.setIfInBounds_toArray, List.set_cons_zero, List.set_cons_succ]
        refine' wpAnyH_take (i := 47) (oi := ⟨some 131, _, _, _, _, _⟩) (v := _) rfl (by kernel_rfl) (by kernel_rfl) (by kernel_rfl) (fun _ _ _ h => h) (Or.inl ⟨by rfl, ?y47P⟩) hS4 ?r47P
        case y47P => (intro w' hSw; have s3 := HC2.out w' (HB9.out w' hSw); go_simp; try rfl)
        try simp only [Act.put, List.setIfInBounds_toArray, List.set_cons_zero, List.set_cons_succ]
        refine' wpAnyH_take (i := 48) (oi := ⟨some 132, _, _, _, _, _⟩) (v := _) rfl (by kernel_rfl) (by kernel_rfl) (by kernel_rfl) (fun _ _ _ h => h) (Or.inl ⟨by rfl, ?y48P⟩) hS4 ?r48P
        case y48P => (intro w' hSw; have s3 := HC2.out w' (HB9.out w' hSw); go_simp; try rfl)
        try simp only [Act.put, List.setIfInBounds_toArray, List.set_cons_zero, List.set_cons_succ]
        refine' wpAnyH_take (i := 49) (oi := ⟨some 133, _, _, _, _, _⟩) (v := _) rfl (by kernel_rfl) (by kernel_rfl) (by kernel_rfl) (fun _ _ _ h => h) (Or.inl ⟨by rfl, ?y49P⟩) hS4 ?r49P
        case y49P => (intro w' hSw; have s3 := HC2.out w' (HB9.out w' hSw); go_simp; try rfl)
        try simp only [Act.put, List.setIfInBounds_toArray, List.set_cons_zero, List.set_cons_succ]
        refine' wpAnyH_take (i := 50) (oi := ⟨some 134, _, _, _, _, _⟩) (v := _) rfl (by kernel_rfl) (by kernel_rfl) (by kernel_rfl) (fun _ _ _ h => h) (Or.inl ⟨by rfl, ?y50P⟩) hS4 ?r50P
        case y50P => (intro w' hSw; have s3 := HC2.out w' (HB9.out w' hSw); go_simp; try rfl)
        try simp only [Act.put, List.setIfInBounds_toArray, List.set_cons_zero, List.set_cons_succ]
        refine held_one (i := 45) (by kernel_rfl) rfl (fun K hK => ?_)
        go_simp
        refine (HMN1.out _).mono ?_
        rintro e Z5 ⟨rfl, hz⟩
        have hS5 := hS4.trans (hz.mono hS4.size)
        clear hz
        refine hK.out _ _ hS5 (fun _ => ?_)
        clear hK K
        try simp only [Act.put, List.setIfInBounds_toArray, List.set_cons_zero, List.set_cons_succ]
        refine held_one (i := 51) (by kernel_rfl) rfl (fun K hK => ?_)
        go_simp
        refine (HMN2.out _).mono ?_
        rintro e Z6 ⟨rfl, hz⟩
        have hS6 := hS5.trans (hz.mono hS5.size)
        clear hz
        refine hK.out _ _ hS6 (fun _ => ?_)
        clear hK K
        try simp only [Act.put, List.setIfInBounds_toArray, List.set_cons_zero, List.set_cons_succ]
        refine' wpAnyH_take (i := 52) (oi := ⟨some 136, _, _, _, _, _⟩) (v := _) rfl (by kernel_rfl) (by kernel_rfl) (by kernel_rfl) (fun _ _ _ h => h) (Or.inl ⟨by rfl, ?y52P⟩) hS6 ?r52P
        case y52P => (intro w' hSw; have s3 := HC2.out w' (HB9.out w' hSw); go_simp; try rfl)
        try simp only [Act.put, List.setIfInBounds_toArray, List.set_cons_zero, List.set_cons_succ]
        refine' wpAnyH_take (i := 53) (oi := ⟨some 137, _, _, _, _, _⟩) (v := _) rfl (by kernel_rfl) (by kernel_rfl) (by kernel_rfl) (fun _ _ _ h => h) (Or.inl ⟨by rfl, ?y53P⟩) hS6 ?r53P
        case y53P => (intro w' hSw; have s3 := HC2.out w' (HB9.out w' hSw); go_simp; try rfl)
        try simp only [Act.put, List.setIfInBounds_toArray, List.set_cons_zero, List.set_cons_succ]
        refine wpAnyH_done (by kernel_rfl) ?_ _
        have HEND := Lib.hid (HP8.out.below (HB9.out _ hS6))
        clear HB9 HP8
        go_wp2
        go_round
        case rel => exact ⟨i + 1, _, _, _, _, _, _, _, _, rfl, rfl, by go_num, HLT.out, HEND.out⟩
        case measure => have := HLT.out; simp [intOf]; omega
      · obtain rfl : i = L.length := by omega
        clear hlt hil
        go_wp2_with fail
        refine (known_law wr).mono ?_
        rintro e wk ⟨rfl, hbk⟩
        have HE := Lib.hid (HP.out.bel.trans (hbk.mono HP.out.bel.size))
        clear hbk
        go_wp2
        go_ret
        exact ⟨rfl, HE.out⟩
end
end Go.Proofs.Ytdbkhigocjmfoaa

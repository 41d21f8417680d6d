/-
  The law WalTurned.
-/
import Derived.Test.YtibifnknkphanaaGreatDoorWOpsA
import Derived.Test.YtibifnknkphanaaGreatDoorWStepA
import Derived.Test.YtibifnknkphanaaGreatDoorWKnown
namespace Go.Proofs.YtibifnknkphanaaGreatDoor
open Go.RowKit Go.Maps
open DskM WalM
set_option linter.unusedVariables false
set_option linter.unusedSimpArgs false
set_option maxRecDepth 100000
attribute [local go_sem] Oper.semAt_some

theorem tok : mayOpen nmW 1 = true := by kernel_rfl
theorem map_b_len (L : List WS.St) : (L.map (·.b)).length = L.length := List.length_map ..
theorem sum_flatten (ls : List (List UInt8)) : (ls.map List.length).sum = ls.flatten.length := by rw [List.length_flatten]
set_option maxHeartbeats 16000000 in
theorem walTurned_any (v u x : Value) (L : List WS.St) (sn : List UInt8) (ms : List (List UInt8)) (w : World) (hld : Ld w) (hv : WS.Sts w v L) (hu : Sl w u sn) (hx : Sls w x ms) (hml : ms.length ≤ 9223372036854775807) :
    Calls Tryz.prog 7 #[v, u, x] w fun e w' => e = .returned (.bool true) ∧ Below w.heap.size w w' := by
  have hfo : Tryz.prog.follows .mixedOrders = true := by kernel_rfl
  have hfar : Far (fun j => w.heap.size ≤ j) := hld.far (fun i hi => hi)
  have HLD := Lib.hid (And.intro hld hfar)
  have HV := Lib.hid hv
  have HU := Lib.hid hu
  have HX := Lib.hid hx
  have HML := Lib.hid hml
  have HMU := Lib.hid (WS.much_any v L 40 (by omega) w hv)
  obtain ⟨A, c, rfl, hc, ha⟩ := id hv
  have HA := Lib.hid ha
  obtain ⟨A2, n2, c2, rfl⟩ := hu.shape
  obtain rfl := hu.len
  obtain ⟨A3, c3, rfl, hc3, ha3⟩ := id hx
  have HA3 := Lib.hid ha3
  clear hld hfar hv hu hx ha ha3 hc hc3 hml
  go_enter Tryz.func7, Tryz.ntmps7
  go_wp2_with fail
  refine HMU.out.mono ?_
  rintro e w1 ⟨r, rfl, hb1, hfew⟩
  have HB1 := Lib.hid hb1
  have HF := Lib.hid hfew
  clear hb1 hfew HMU
  cases r with
  | true =>
    clear HF HA HA3
    go_wp2_with fail
    refine (known_any _ (HLD.out.1.below HB1.out)).mono ?_
    rintro e wf ⟨rfl, hb⟩
    have HBf := Lib.hid (HB1.out.trans (hb.mono HB1.out.size))
    clear hb
    go_wp2
    go_ret
    exact ⟨rfl, HBf.out⟩
  | false =>
    have HF := Lib.hid (HF.out rfl)
    by_cases h1 : 20000 < sn.length
    · have h1i : (20000 : Int) < (sn.length : Int) := by omega
      clear HF HA HA3
      go_wp2_with fail
      refine (known_any _ (HLD.out.1.below HB1.out)).mono ?_
      rintro e wf ⟨rfl, hb⟩
      have HBf := Lib.hid (HB1.out.trans (hb.mono HB1.out.size))
      clear hb
      go_wp2
      go_ret
      exact ⟨rfl, HBf.out⟩
    · have h1i : ¬ (20000 : Int) < (sn.length : Int) := by omega
      have hsn : sn.length ≤ 20000 := by omega
      by_cases h2 : 20000 < ms.length + ms.flatten.length
      · have HMM := Lib.hid (M20.much_any _ ms w1 true (HX.out.below HB1.out) HML.out (decide_eq_true h2).symm)
        clear HF HA HA3
        go_wp2_with fail
        refine HMM.out.mono ?_
        rintro e wx ⟨rfl, hwx⟩
        rw [← hwx]
        clear hwx wx HMM
        go_wp2_with fail
        refine (known_any _ (HLD.out.1.below HB1.out)).mono ?_
        rintro e wf ⟨rfl, hb⟩
        have HBf := Lib.hid (HB1.out.trans (hb.mono HB1.out.size))
        clear hb
        go_wp2
        go_ret
        exact ⟨rfl, HBf.out⟩
      · have HMM := Lib.hid (M20.much_any _ ms w1 false (HX.out.below HB1.out) HML.out (decide_eq_false h2).symm)
        have hms : (ms.map List.length).sum ≤ 20000 := by rw [sum_flatten]; omega
        by_cases h3 : 20 < ms.length
        · have h3i : (20 : Int) < (ms.length : Int) := by omega
          clear HF HA HA3
          go_wp2_with fail
          refine HMM.out.mono ?_
          rintro e wx ⟨rfl, hwx⟩
          rw [← hwx]
          clear hwx wx HMM
          go_wp2_with fail
          refine (known_any _ (HLD.out.1.below HB1.out)).mono ?_
          rintro e wf ⟨rfl, hb⟩
          have HBf := Lib.hid (HB1.out.trans (hb.mono HB1.out.size))
          clear hb
          go_wp2
          go_ret
          exact ⟨rfl, HBf.out⟩
        · have h3i : ¬ (20 : Int) < (ms.length : Int) := by omega
          have hml : ms.length ≤ 40 := by omega
          obtain ⟨bs, hbs⟩ : ∃ bs, bs = L.map (·.b) := ⟨_, rfl⟩
          have hbl : bs.length = L.length := by rw [hbs]; exact map_b_len L
          have hL40 : L.length ≤ 40 := HF.out.1
          have hsum : (bs.map List.length).sum ≤ 20000 := by
            have := HF.out.2.1
            rw [hbs, List.map_map]
            exact this
          have hget : ∀ k (h : k < L.length) (h' : k < bs.length), L[k].b = bs[k] := fun k h h' => by subst hbs; rw [List.getElem_map]
          have HN := Lib.hid (And.intro hsn (And.intro hms (And.intro hml (And.intro hbl (And.intro hL40 (And.intro hsum hget))))))
          clear HF h1 h2 h3 hsn hms hml hbs hbl hL40 hsum hget
          go_wp2_with fail
          refine HMM.out.mono ?_
          rintro e wx ⟨rfl, hwx⟩
          rw [← hwx]
          clear hwx wx HMM
          have HNEW := Lib.hid (show Calls Tryz.prog 16 #[.int .i64 200000] w1 _ from my_new 200000 w1 (by omega) (by omega))
          go_wp2_with fail
          refine HNEW.out.mono ?_
          rintro e w2 ⟨p, rfl, hm, hb2⟩
          have hm' : My w.heap.size w2 p tS0 [] := hm.mono HB1.out.size
          have HB2 := Lib.hid (HB1.out.trans (hb2.mono HB1.out.size))
          have HOP := Lib.hid (kn_open (r := tA 2 1 [] 8 bs 0) hm' HB2.out.size (HLD.out.1.below HB2.out) HLD.out.2 nmW 1 tok (by show 200000 ≤ 1000000; omega) (by show 0 + 100 ≤ 1000000; omega) t_open)
          clear hm hm' hb2 HNEW HB1
          go_wp2_with fail
          refine HOP.out.mono ?_
          rintro e w3 ⟨g, hg, rfl, hl, hb⟩
          rw [show (tA 2 1 [] 8 bs 0).1 = 0 from rfl, if_pos rfl]
          have HL3 := Lib.hid hl
          have HB3 := Lib.hid (show Below w.heap.size w w3 from HB2.out.trans hb)
          clear hl hb hg HOP HB2
          go_wp2_with fail
          refine (lnum_any 0 w3).mono ?_
          rintro e wx ⟨rfl, hwx⟩
          rw [hwx]
          clear hwx wx
          go_wp2_with fail
          go_loopw [11] (fun z wr => ∃ k : Nat, z = .int .i64 (k : Int) ∧ k ≤ L.length ∧ Lgs w.heap.size wr g p nmW 1 (tA 2 1 [] 8 bs k) ∧ Below w.heap.size w wr) (fun z _ => L.length - (intOf z).toNat)
          case atStart => exact ⟨0, rfl, Nat.zero_le _, HL3.out, HB3.out⟩
          case round =>
            obtain ⟨k, rfl, hk, hl, hb⟩ := hrel
            by_cases hlt : k < L.length
            · have hki : (k : Int) < (L.length : Int) := by omega
              have hk40 : k ≤ 40 := by have := HN.out.2.2.2.2.1; omega
              obtain ⟨bb, o, rfl, hxx⟩ := HA.out (by omega)
              obtain ⟨hcs, h0⟩ := hxx k hlt
              obtain ⟨_, _, _, hS4, _⟩ := hcs.below hb
              have hsl := h0.b.below hb
              have hbk : k < bs.length := by have := HN.out.2.2.2.1; omega
              rw [HN.out.2.2.2.2.2.2 k hlt hbk] at hsl
              have HCALL := Lib.hid (kn_append hl hb.size (by have := HN.out.2.2.2.2.1; show 2 + k + 2 ≤ 1000000; omega) (by have := HN.out.2.2.2.2.1; show (bs.take k).length ≤ 1000001; rw [List.length_take]; omega) (by show 1 ≤ 1000000; omega) _ _ hsl (t_app 2 1 [] 8 bs k hbk (by omega) (by show 0 ≤ 20000; omega) (by have := HN.out.2.2.2.1; have := HN.out.2.2.2.2.1; omega) HN.out.2.2.2.2.2.1))
              obtain ⟨A4, n4, c4, e4⟩ := hsl.shape
              rw [e4] at hS4 HCALL
              have HBK := Lib.hid hb
              clear hxx hcs h0 hsl hl hb e4 HL3 HB3
              go_wp2_with fail
              refine HCALL.out.mono ?_
              rintro e wn ⟨rfl, hl2, hb2⟩
              have HQ := Lib.hid (And.intro hl2 (HBK.out.trans hb2))
              clear hl2 hb2 HCALL
              go_wp2
              go_roundw
              case rel => exact ⟨k + 1, by go_num, by omega, HQ.out.1, HQ.out.2⟩
              case measure => simp [intOf]; omega
            · obtain rfl : k = L.length := by omega
              rw [← HN.out.2.2.2.1] at hl
              have HL4 := Lib.hid hl
              have HB4 := Lib.hid hb
              clear hl hb HL3 HB3 HA hlt hk
              go_wp2_with fail
              refine (kn_seg HL4.out).mono ?_
              rintro e wx ⟨rfl, hwx⟩
              rw [hwx, show (tA 2 1 [] 8 bs bs.length).2.2.2.num = 1 from rfl]
              clear hwx wx
              obtain ⟨sx, hsx⟩ : ∃ sx : ByteArray, (⟨sn.toArray⟩ : ByteArray) = sx := ⟨_, rfl⟩
              have HSX := Lib.hid hsx
              clear hsx
              have HBQ := Lib.hid (show (sx.toList == sx.toList) = true by simp)
              go_wp2_with fail
              have HBD := Lib.hid HB4.out.drew
              have HLD0 := Lib.hid (HL4.out.below ((Below.refl wr.heap.size wr).drew))
              refine wp_region_held_drew (S := fun X => Below w.heap.size w X) hfo HBD.out (fun hS0 => ?_)
              generalize wr.drew = Z0 at hS0 HLD0 ⊢
              clear HBD HL4 HB4
              refine' wpAnyH_take (i := 0) (oi := ⟨some 60, _, _, _, _, _⟩) (v := _) rfl (by kernel_rfl) (by kernel_rfl) (by kernel_rfl) (fun _ _ _ h => h) (Or.inl ⟨by rfl, ?y0a⟩) hS0 ?r0a
              case y0a => (intro w' hSw; go_simp; try rfl)
              try simp only [Act.put, List.setIfInBounds_toArray, List.set_cons_zero, List.set_cons_succ, HBQ.out, Bool.not_true, Bool.not_false]
              refine' wpAnyH_take (i := 1) (oi := ⟨some 61, _, _, _, _, _⟩) (v := _) rfl (by kernel_rfl) (by kernel_rfl) (by kernel_rfl) (fun _ _ _ h => h) (Or.inl ⟨by rfl, ?y1a⟩) hS0 ?r1a
              case y1a => (intro w' hSw; go_simp; try rfl)
              try simp only [Act.put, List.setIfInBounds_toArray, List.set_cons_zero, List.set_cons_succ, HBQ.out, Bool.not_true, Bool.not_false]
              refine held_one (i := 2) (by kernel_rfl) rfl (fun Ka hK => ?_)
              go_simp
              refine (kn_turn HLD0.out hS0.size (by have := HN.out.2.2.2.1; have := HN.out.2.2.2.2.1; show 2 + bs.length + 5 ≤ 1000000; omega) (by have := HN.out.2.2.2.1; have := HN.out.2.2.2.2.1; show (bs.take bs.length).length ≤ 1000001; rw [List.length_take]; omega) (by show 1 ≤ 1000000; omega) _ sn (HU.out.below hS0) (t_turn 2 8 bs sn HN.out.1 (by have := HN.out.2.2.2.1; have := HN.out.2.2.2.2.1; omega) HN.out.2.2.2.2.2.1 ms)).mono ?_
              rintro e Z1 ⟨rfl, hl, hb⟩
              rw [show (tA (2 + bs.length + 3) 2 sn (recP sn).length ms 0).1 = 0 from rfl]
              have HL5 := Lib.hid hl
              have hS1 := hS0.trans hb
              clear hl hb HLD0
              refine hK.out _ _ hS1 (fun _ => ?_)
              clear hK Ka
              try simp only [Act.put, List.setIfInBounds_toArray, List.set_cons_zero, List.set_cons_succ, HBQ.out, Bool.not_true, Bool.not_false]
              refine held_one (i := 3) (by kernel_rfl) rfl (fun Ka hK => ?_)
              go_simp
              refine (lnum_any 0 _).mono ?_
              rintro e wx ⟨rfl, hwx⟩
              rw [hwx]
              clear hwx wx
              refine hK.out _ _ hS1 (fun _ => ?_)
              clear hK Ka
              try simp only [Act.put, List.setIfInBounds_toArray, List.set_cons_zero, List.set_cons_succ, HBQ.out, Bool.not_true, Bool.not_false]
              refine' wpAnyH_take (i := 4) (oi := ⟨some 64, _, _, _, _, _⟩) (v := _) rfl (by kernel_rfl) (by kernel_rfl) (by kernel_rfl) (fun _ _ _ h => h) (Or.inl ⟨by rfl, ?y4a⟩) hS1 ?r4a
              case y4a => (intro w' hSw; go_simp; try rfl)
              try simp only [Act.put, List.setIfInBounds_toArray, List.set_cons_zero, List.set_cons_succ, HBQ.out, Bool.not_true, Bool.not_false]
              refine' wpAnyH_take (i := 5) (oi := ⟨some 65, _, _, _, _, _⟩) (v := _) rfl (by kernel_rfl) (by kernel_rfl) (by kernel_rfl) (fun _ _ _ h => h) (Or.inl ⟨by rfl, ?y5a⟩) hS1 ?r5a
              case y5a => (intro w' hSw; go_simp; try rfl)
              try simp only [Act.put, List.setIfInBounds_toArray, List.set_cons_zero, List.set_cons_succ, HBQ.out, Bool.not_true, Bool.not_false]
              refine' wpAnyH_take (i := 6) (oi := ⟨some 66, _, _, _, _, _⟩) (v := _) rfl (by kernel_rfl) (by kernel_rfl) (by kernel_rfl) (fun _ _ _ h => h) (Or.inl ⟨by rfl, ?y6a⟩) hS1 ?r6a
              case y6a => (intro w' hSw; go_simp; try rfl)
              try simp only [Act.put, List.setIfInBounds_toArray, List.set_cons_zero, List.set_cons_succ, HBQ.out, Bool.not_true, Bool.not_false]
              refine held_one (i := 7) (by kernel_rfl) rfl (fun Ka hK => ?_)
              go_simp
              refine (kn_len HL5.out).mono ?_
              rintro e wx ⟨rfl, hwx⟩
              rw [hwx, show (tA (2 + bs.length + 3) 2 sn (recP sn).length ms 0).2.2.2.recs.length = 0 from rfl]
              clear hwx wx
              refine hK.out _ _ hS1 (fun _ => ?_)
              clear hK Ka
              try simp only [Act.put, List.setIfInBounds_toArray, List.set_cons_zero, List.set_cons_succ, HBQ.out, Bool.not_true, Bool.not_false]
              refine' wpAnyH_take (i := 8) (oi := ⟨some 68, _, _, _, _, _⟩) (v := _) rfl (by kernel_rfl) (by kernel_rfl) (by kernel_rfl) (fun _ _ _ h => h) (Or.inl ⟨by rfl, ?y8a⟩) hS1 ?r8a
              case y8a => (intro w' hSw; go_simp; try rfl)
              try simp only [Act.put, List.setIfInBounds_toArray, List.set_cons_zero, List.set_cons_succ, HBQ.out, Bool.not_true, Bool.not_false]
              refine' wpAnyH_take (i := 9) (oi := ⟨some 69, _, _, _, _, _⟩) (v := _) rfl (by kernel_rfl) (by kernel_rfl) (by kernel_rfl) (fun _ _ _ h => h) (Or.inl ⟨by rfl, ?y9a⟩) hS1 ?r9a
              case y9a => (intro w' hSw; go_simp; try rfl)
              try simp only [Act.put, List.setIfInBounds_toArray, List.set_cons_zero, List.set_cons_succ, HBQ.out, Bool.not_true, Bool.not_false]
              refine' wpAnyH_take (i := 10) (oi := ⟨some 70, _, _, _, _, _⟩) (v := _) rfl (by kernel_rfl) (by kernel_rfl) (by kernel_rfl) (fun _ _ _ h => h) (Or.inl ⟨by rfl, ?y10a⟩) hS1 ?r10a
              case y10a => (intro w' hSw; go_simp; try rfl)
              try simp only [Act.put, List.setIfInBounds_toArray, List.set_cons_zero, List.set_cons_succ, HBQ.out, Bool.not_true, Bool.not_false]
              refine' wpAnyH_take (i := 11) (oi := ⟨some 71, _, _, _, _, _⟩) (v := _) rfl (by kernel_rfl) (by kernel_rfl) (by kernel_rfl) (fun _ _ _ h => h) (Or.inl ⟨by rfl, ?y11a⟩) hS1 ?r11a
              case y11a => (intro w' hSw; go_simp; try rfl)
              try simp only [Act.put, List.setIfInBounds_toArray, List.set_cons_zero, List.set_cons_succ, HBQ.out, Bool.not_true, Bool.not_false]
              refine' wpAnyH_take (i := 13) (oi := ⟨some 73, _, _, _, _, _⟩) (v := _) rfl (by kernel_rfl) (by kernel_rfl) (by kernel_rfl) (fun _ _ _ h => h) (Or.inl ⟨by rfl, ?y13a⟩) hS1 ?r13a
              case y13a => (intro w' hSw; go_simp; try rfl)
              try simp only [Act.put, List.setIfInBounds_toArray, List.set_cons_zero, List.set_cons_succ, HBQ.out, Bool.not_true, Bool.not_false]
              refine' wpAnyH_take (i := 14) (oi := ⟨some 74, _, _, _, _, _⟩) (v := _) rfl (by kernel_rfl) (by kernel_rfl) (by kernel_rfl) (fun _ _ _ h => h) (Or.inl ⟨by rfl, ?y14a⟩) hS1 ?r14a
              case y14a => (intro w' hSw; go_simp; try rfl)
              try simp only [Act.put, List.setIfInBounds_toArray, List.set_cons_zero, List.set_cons_succ, HBQ.out, Bool.not_true, Bool.not_false]
              refine held_one (i := 12) (by kernel_rfl) rfl (fun Ka hK => ?_)
              go_simp
              refine (kn_seg HL5.out).mono ?_
              rintro e wx ⟨rfl, hwx⟩
              rw [hwx, show (tA (2 + bs.length + 3) 2 sn (recP sn).length ms 0).2.2.2.num = 2 from rfl]
              clear hwx wx
              refine hK.out _ _ hS1 (fun _ => ?_)
              clear hK Ka
              try simp only [Act.put, List.setIfInBounds_toArray, List.set_cons_zero, List.set_cons_succ, HBQ.out, Bool.not_true, Bool.not_false]
              refine' wpAnyH_take (i := 15) (oi := ⟨some 75, _, _, _, _, _⟩) (v := _) rfl (by kernel_rfl) (by kernel_rfl) (by kernel_rfl) (fun _ _ _ h => h) (Or.inl ⟨by rfl, ?y15a⟩) hS1 ?r15a
              case y15a => (intro w' hSw; go_simp; try rfl)
              try simp only [Act.put, List.setIfInBounds_toArray, List.set_cons_zero, List.set_cons_succ, HBQ.out, Bool.not_true, Bool.not_false]
              refine' wpAnyH_take (i := 16) (oi := ⟨some 76, _, _, _, _, _⟩) (v := _) rfl (by kernel_rfl) (by kernel_rfl) (by kernel_rfl) (fun _ _ _ h => h) (Or.inl ⟨by rfl, ?y16a⟩) hS1 ?r16a
              case y16a => (intro w' hSw; go_simp; try rfl)
              try simp only [Act.put, List.setIfInBounds_toArray, List.set_cons_zero, List.set_cons_succ, HBQ.out, Bool.not_true, Bool.not_false]
              refine' wpAnyH_take (i := 17) (oi := ⟨some 77, _, _, _, _, _⟩) (v := _) rfl (by kernel_rfl) (by kernel_rfl) (by kernel_rfl) (fun _ _ _ h => h) (Or.inl ⟨by rfl, ?y17a⟩) hS1 ?r17a
              case y17a => (intro w' hSw; go_simp; try rfl)
              try simp only [Act.put, List.setIfInBounds_toArray, List.set_cons_zero, List.set_cons_succ, HBQ.out, Bool.not_true, Bool.not_false]
              refine' wpAnyH_take (i := 18) (oi := ⟨some 78, _, _, _, _, _⟩) (v := _) rfl (by kernel_rfl) (by kernel_rfl) (by kernel_rfl) (fun _ _ _ h => h) (Or.inl ⟨by rfl, ?y18a⟩) hS1 ?r18a
              case y18a => (intro w' hSw; go_simp; try rfl)
              try simp only [Act.put, List.setIfInBounds_toArray, List.set_cons_zero, List.set_cons_succ, HBQ.out, Bool.not_true, Bool.not_false]
              refine' wpAnyH_take (i := 21) (oi := ⟨some 81, _, _, _, _, _⟩) (v := _) rfl (by kernel_rfl) (by kernel_rfl) (by kernel_rfl) (fun _ _ _ h => h) (Or.inl ⟨by rfl, ?y21a⟩) hS1 ?r21a
              case y21a => (intro w' hSw; go_simp; try rfl)
              try simp only [Act.put, List.setIfInBounds_toArray, List.set_cons_zero, List.set_cons_succ, HBQ.out, Bool.not_true, Bool.not_false]
              refine' wpAnyH_take (i := 22) (oi := ⟨some 82, _, _, _, _, _⟩) (v := _) rfl (by kernel_rfl) (by kernel_rfl) (by kernel_rfl) (fun _ _ _ h => h) (Or.inl ⟨by rfl, ?y22a⟩) hS1 ?r22a
              case y22a => (intro w' hSw; have hcv := conv_w (HU.out.below hSw) HSX.out; go_simp; try rfl)
              try simp only [Act.put, List.setIfInBounds_toArray, List.set_cons_zero, List.set_cons_succ, HBQ.out, Bool.not_true, Bool.not_false]
              refine held_one (i := 19) (by kernel_rfl) rfl (fun Ka hK => ?_)
              go_simp
              refine (kn_snap HL5.out (by have := HN.out.1; show sn.length ≤ 1000000000; omega)).mono ?_
              rintro e Z2 ⟨v6, rfl, ho, hb⟩
              have hsl6 : Sl Z2 v6 sn := ho.sl
              obtain ⟨A6, n6, c6, rfl⟩ := hsl6.shape
              have HCV := Lib.hid (conv_w hsl6 HSX.out)
              have hS2 := hS1.trans (hb.mono hS1.size)
              have HL5 := Lib.hid (HL5.out.below hb)
              clear ho hb hsl6
              refine hK.out _ _ hS2 (fun _ => ?_)
              clear hK Ka
              try simp only [Act.put, List.setIfInBounds_toArray, List.set_cons_zero, List.set_cons_succ, HBQ.out, Bool.not_true, Bool.not_false]
              refine held_one (i := 20) (by kernel_rfl) rfl (fun Ka hK => ?_)
              have hcv := HCV.out
              go_simp
              refine hK.out _ _ hS2 (fun _ => ?_)
              clear hK Ka
              try simp only [Act.put, List.setIfInBounds_toArray, List.set_cons_zero, List.set_cons_succ, HBQ.out, Bool.not_true, Bool.not_false]
              refine' wpAnyH_take (i := 23) (oi := ⟨some 83, _, _, _, _, _⟩) (v := _) rfl (by kernel_rfl) (by kernel_rfl) (by kernel_rfl) (fun _ _ _ h => h) (Or.inl ⟨by rfl, ?y23a⟩) hS2 ?r23a
              case y23a => (intro w' hSw; go_simp; try rfl)
              try simp only [Act.put, List.setIfInBounds_toArray, List.set_cons_zero, List.set_cons_succ, HBQ.out, Bool.not_true, Bool.not_false]
              refine' wpAnyH_take (i := 24) (oi := ⟨some 84, _, _, _, _, _⟩) (v := _) rfl (by kernel_rfl) (by kernel_rfl) (by kernel_rfl) (fun _ _ _ h => h) (Or.inl ⟨by rfl, ?y24a⟩) hS2 ?r24a
              case y24a => (intro w' hSw; go_simp; try rfl)
              try simp only [Act.put, List.setIfInBounds_toArray, List.set_cons_zero, List.set_cons_succ, HBQ.out, Bool.not_true, Bool.not_false]
              refine wpAnyH_done (by kernel_rfl) ?_ _
              have HB5 := Lib.hid hS2
              clear hS0 hS1 hS2 HCV
              go_wp2_with fail
              go_loopw [13] (fun z wr => ∃ k : Nat, z = .int .i64 (k : Int) ∧ k ≤ ms.length ∧ Lgs w.heap.size wr g p nmW 1 (tA (2 + bs.length + 3) 2 sn (recP sn).length ms k) ∧ Below w.heap.size w wr) (fun z _ => ms.length - (intOf z).toNat)
              case atStart => exact ⟨0, rfl, Nat.zero_le _, HL5.out, HB5.out⟩
              case round =>
                obtain ⟨k, rfl, hk, hl, hb⟩ := hrel
                by_cases hlt : k < ms.length
                · have hki : (k : Int) < (ms.length : Int) := by omega
                  have hk40 : k ≤ 40 := by have := HN.out.2.2.1; omega
                  obtain ⟨bb, o, rfl, hxx⟩ := HA3.out (by omega)
                  obtain ⟨xv, hcl, hs1⟩ := hxx k hlt
                  have hS4 := (hb.cell (World.block_lt_of_cell? w _ hcl)).trans hcl
                  have hsl := hs1.below hb
                  have HCALL := Lib.hid (kn_append hl hb.size (by have := HN.out.2.2.1; have := HN.out.2.2.2.1; have := HN.out.2.2.2.2.1; show 2 + bs.length + 3 + k + 2 ≤ 1000000; omega) (by have := HN.out.2.2.1; show (ms.take k).length ≤ 1000001; rw [List.length_take]; omega) (by show 1 ≤ 1000000; omega) _ _ hsl (t_app (2 + bs.length + 3) 2 sn (recP sn).length ms k hlt (by omega) HN.out.1 HN.out.2.2.1 HN.out.2.1))
                  obtain ⟨A4, n4, c4, e4⟩ := hsl.shape
                  rw [e4] at hS4 HCALL
                  have HBK := Lib.hid hb
                  clear hxx hcl hs1 hsl hl hb e4 HL5 HB5
                  go_wp2_with fail
                  refine HCALL.out.mono ?_
                  rintro e wn ⟨rfl, hl2, hb2⟩
                  rw [show (tA (2 + bs.length + 3) 2 sn (recP sn).length ms (k + 1)).1 = 0 from rfl]
                  have HQ := Lib.hid (And.intro hl2 (HBK.out.trans hb2))
                  clear hl2 hb2 HCALL
                  go_wp2_with fail
                  refine (lnum_any 0 _).mono ?_
                  rintro e wx ⟨rfl, hwx⟩
                  rw [hwx]
                  clear hwx wx
                  go_wp2
                  go_roundw
                  case rel =>
                    refine ⟨_, _, _, _, _, _, _, _, _, _, _, _, _, _, _, _, ⟨k + 1, ?q1, ?q2, HQ.out.1, HQ.out.2⟩, rfl⟩
                    case q1 => go_num
                    case q2 => omega
                  case measure => simp [intOf]; omega
                · obtain rfl : k = ms.length := by omega
                  have HL6 := Lib.hid hl
                  have HB6 := Lib.hid hb
                  clear hl hb HL5 HB5 HA3 hlt hk
                  go_wp2_with fail
                  refine (kn_sync HL6.out HB6.out.size (by have := HN.out.2.2.1; have := HN.out.2.2.2.1; have := HN.out.2.2.2.2.1; show 2 + bs.length + 3 + ms.length + 2 ≤ 1000000; omega) (by have := HN.out.2.2.1; show (ms.take ms.length).length ≤ 1000001; rw [List.length_take]; omega) (by show 1 ≤ 1000000; omega) (t_sync _ 2 sn _ ms (by omega))).mono ?_
                  rintro e w7 ⟨rfl, hl, hb⟩
                  rw [show (tY (2 + bs.length + 3) 2 sn ms).1 = 0 from rfl]
                  have HL7 := Lib.hid hl
                  have HB7 := Lib.hid (HB6.out.trans hb)
                  clear hl hb HL6 HB6
                  go_wp2_with fail
                  refine (lnum_any 0 _).mono ?_
                  rintro e wx ⟨rfl, hwx⟩
                  rw [hwx]
                  clear hwx wx
                  go_wp2_with fail
                  refine (kn_synced HL7.out).mono ?_
                  rintro e wx ⟨rfl, hwx⟩
                  rw [hwx, show (tY (2 + bs.length + 3) 2 sn ms).2.2.2.synced = ms.length from rfl]
                  clear hwx wx
                  have HCR := Lib.hid (my_crash HL7.out.my [] _ (SlN.nil w7 none 0 (by omega)))
                  go_wp2_with fail
                  refine HCR.out.mono ?_
                  rintro e w8 ⟨p2, rfl, hm8, hb8⟩
                  rw [t_crash] at hm8
                  have hm8' : My w.heap.size w8 p2 tS0 _ := hm8.mono HB7.out.size
                  have HB8 := Lib.hid (HB7.out.trans (hb8.mono HB7.out.size))
                  obtain ⟨wr2, hop, hwr⟩ := t_open2 2 sn ms (by omega) (by omega) HN.out.1 HN.out.2.1
                  obtain ⟨rr, hrr⟩ : ∃ rr : Out, rr = (0, tS wr2, gF nmW 2 sn ms (flat (sn :: ms)).length, gL 2 sn ms ms.length) := ⟨_, rfl⟩
                  rw [← hrr] at hop
                  have HR := Lib.hid (show rr.1 = 0 ∧ rr.2.2.2.num = 2 ∧ rr.2.2.2.snap = sn ∧ rr.2.2.2.recs = ms by subst hrr; exact ⟨rfl, rfl, rfl, rfl⟩)
                  have HOP := Lib.hid (kn_open hm8' HB8.out.size (HLD.out.1.below HB8.out) HLD.out.2 nmW 1 tok (by show 200000 ≤ 1000000; omega) (by show 0 + 100 ≤ 1000000; omega) hop)
                  clear hm8 hm8' hb8 HCR HL7 HB7 hop hrr hwr
                  go_wp2_with fail
                  refine HOP.out.mono ?_
                  rintro e w9 ⟨g2, hg, rfl, hl, hb⟩
                  rw [if_pos HR.out.1, HR.out.1]
                  have HL9 := Lib.hid hl
                  have HB9 := Lib.hid (show Below w.heap.size w w9 from HB8.out.trans hb)
                  clear hl hb hg HOP HB8
                  go_wp2_with fail
                  have HBD := Lib.hid HB9.out.drew
                  have HLD0 := Lib.hid (HL9.out.below ((Below.refl w9.heap.size w9).drew))
                  refine wp_region_held_drew (S := fun X => Below w.heap.size w X) hfo HBD.out (fun hS0 => ?_)
                  generalize w9.drew = Z0 at hS0 HLD0 ⊢
                  clear HBD HL9 HB9
                  refine' wpAnyH_take (i := 0) (oi := ⟨some 116, _, _, _, _, _⟩) (v := _) rfl (by kernel_rfl) (by kernel_rfl) (by kernel_rfl) (fun _ _ _ h => h) (Or.inl ⟨by rfl, ?y0b⟩) hS0 ?r0b
                  case y0b => (intro w' hSw; go_simp; try rfl)
                  try simp only [Act.put, List.setIfInBounds_toArray, List.set_cons_zero, List.set_cons_succ, HBQ.out, Bool.not_true, Bool.not_false]
                  refine held_one (i := 1) (by kernel_rfl) rfl (fun Kb hK => ?_)
                  go_simp
                  refine (lnum_any 0 _).mono ?_
                  rintro e wx ⟨rfl, hwx⟩
                  rw [hwx]
                  clear hwx wx
                  refine hK.out _ _ hS0 (fun _ => ?_)
                  clear hK Kb
                  try simp only [Act.put, List.setIfInBounds_toArray, List.set_cons_zero, List.set_cons_succ, HBQ.out, Bool.not_true, Bool.not_false]
                  refine' wpAnyH_take (i := 2) (oi := ⟨some 118, _, _, _, _, _⟩) (v := _) rfl (by kernel_rfl) (by kernel_rfl) (by kernel_rfl) (fun _ _ _ h => h) (Or.inl ⟨by rfl, ?y2b⟩) hS0 ?r2b
                  case y2b => (intro w' hSw; go_simp; try rfl)
                  try simp only [Act.put, List.setIfInBounds_toArray, List.set_cons_zero, List.set_cons_succ, HBQ.out, Bool.not_true, Bool.not_false]
                  refine' wpAnyH_take (i := 3) (oi := ⟨some 119, _, _, _, _, _⟩) (v := _) rfl (by kernel_rfl) (by kernel_rfl) (by kernel_rfl) (fun _ _ _ h => h) (Or.inl ⟨by rfl, ?y3b⟩) hS0 ?r3b
                  case y3b => (intro w' hSw; go_simp; try rfl)
                  try simp only [Act.put, List.setIfInBounds_toArray, List.set_cons_zero, List.set_cons_succ, HBQ.out, Bool.not_true, Bool.not_false]
                  refine' wpAnyH_take (i := 4) (oi := ⟨some 120, _, _, _, _, _⟩) (v := _) rfl (by kernel_rfl) (by kernel_rfl) (by kernel_rfl) (fun _ _ _ h => h) (Or.inl ⟨by rfl, ?y4b⟩) hS0 ?r4b
                  case y4b => (intro w' hSw; go_simp; try rfl)
                  try simp only [Act.put, List.setIfInBounds_toArray, List.set_cons_zero, List.set_cons_succ, HBQ.out, Bool.not_true, Bool.not_false]
                  refine' wpAnyH_take (i := 7) (oi := ⟨some 123, _, _, _, _, _⟩) (v := _) rfl (by kernel_rfl) (by kernel_rfl) (by kernel_rfl) (fun _ _ _ h => h) (Or.inl ⟨by rfl, ?y7b⟩) hS0 ?r7b
                  case y7b => (intro w' hSw; go_simp; try rfl)
                  try simp only [Act.put, List.setIfInBounds_toArray, List.set_cons_zero, List.set_cons_succ, HBQ.out, Bool.not_true, Bool.not_false]
                  refine' wpAnyH_take (i := 8) (oi := ⟨some 124, _, _, _, _, _⟩) (v := _) rfl (by kernel_rfl) (by kernel_rfl) (by kernel_rfl) (fun _ _ _ h => h) (Or.inl ⟨by rfl, ?y8b⟩) hS0 ?r8b
                  case y8b => (intro w' hSw; have hcv := conv_w (HU.out.below hSw) HSX.out; go_simp; try rfl)
                  try simp only [Act.put, List.setIfInBounds_toArray, List.set_cons_zero, List.set_cons_succ, HBQ.out, Bool.not_true, Bool.not_false]
                  refine held_one (i := 5) (by kernel_rfl) rfl (fun Kb hK => ?_)
                  go_simp
                  refine (kn_snap HLD0.out (by have := HN.out.1; rw [HR.out.2.2.1]; omega)).mono ?_
                  rintro e Z2 ⟨v6, rfl, ho, hb⟩
                  rw [HR.out.2.2.1] at ho
                  have hsl6 : Sl Z2 v6 sn := ho.sl
                  obtain ⟨A6, n6, c6, rfl⟩ := hsl6.shape
                  have HCV := Lib.hid (conv_w hsl6 HSX.out)
                  have hS2 := hS0.trans (hb.mono hS0.size)
                  have HL10 := Lib.hid (HLD0.out.below hb)
                  clear ho hb hsl6 HLD0
                  refine hK.out _ _ hS2 (fun _ => ?_)
                  clear hK Kb
                  try simp only [Act.put, List.setIfInBounds_toArray, List.set_cons_zero, List.set_cons_succ, HBQ.out, Bool.not_true, Bool.not_false]
                  refine held_one (i := 6) (by kernel_rfl) rfl (fun Kb hK => ?_)
                  have hcv := HCV.out
                  go_simp
                  refine hK.out _ _ hS2 (fun _ => ?_)
                  clear hK Kb
                  try simp only [Act.put, List.setIfInBounds_toArray, List.set_cons_zero, List.set_cons_succ, HBQ.out, Bool.not_true, Bool.not_false]
                  refine' wpAnyH_take (i := 9) (oi := ⟨some 125, _, _, _, _, _⟩) (v := _) rfl (by kernel_rfl) (by kernel_rfl) (by kernel_rfl) (fun _ _ _ h => h) (Or.inl ⟨by rfl, ?y9b⟩) hS2 ?r9b
                  case y9b => (intro w' hSw; go_simp; try rfl)
                  try simp only [Act.put, List.setIfInBounds_toArray, List.set_cons_zero, List.set_cons_succ, HBQ.out, Bool.not_true, Bool.not_false]
                  refine' wpAnyH_take (i := 10) (oi := ⟨some 126, _, _, _, _, _⟩) (v := _) rfl (by kernel_rfl) (by kernel_rfl) (by kernel_rfl) (fun _ _ _ h => h) (Or.inl ⟨by rfl, ?y10b⟩) hS2 ?r10b
                  case y10b => (intro w' hSw; go_simp; try rfl)
                  try simp only [Act.put, List.setIfInBounds_toArray, List.set_cons_zero, List.set_cons_succ, HBQ.out, Bool.not_true, Bool.not_false]
                  refine' wpAnyH_take (i := 11) (oi := ⟨some 127, _, _, _, _, _⟩) (v := _) rfl (by kernel_rfl) (by kernel_rfl) (by kernel_rfl) (fun _ _ _ h => h) (Or.inl ⟨by rfl, ?y11b⟩) hS2 ?r11b
                  case y11b => (intro w' hSw; go_simp; try rfl)
                  try simp only [Act.put, List.setIfInBounds_toArray, List.set_cons_zero, List.set_cons_succ, HBQ.out, Bool.not_true, Bool.not_false]
                  refine' wpAnyH_take (i := 12) (oi := ⟨some 128, _, _, _, _, _⟩) (v := _) rfl (by kernel_rfl) (by kernel_rfl) (by kernel_rfl) (fun _ _ _ h => h) (Or.inl ⟨by rfl, ?y12b⟩) hS2 ?r12b
                  case y12b => (intro w' hSw; go_simp; try rfl)
                  try simp only [Act.put, List.setIfInBounds_toArray, List.set_cons_zero, List.set_cons_succ, HBQ.out, Bool.not_true, Bool.not_false]
                  refine' wpAnyH_take (i := 13) (oi := ⟨some 129, _, _, _, _, _⟩) (v := _) rfl (by kernel_rfl) (by kernel_rfl) (by kernel_rfl) (fun _ _ _ h => h) (Or.inl ⟨by rfl, ?y13b⟩) hS2 ?r13b
                  case y13b => (intro w' hSw; go_simp; try rfl)
                  try simp only [Act.put, List.setIfInBounds_toArray, List.set_cons_zero, List.set_cons_succ, HBQ.out, Bool.not_true, Bool.not_false]
                  refine held_one (i := 14) (by kernel_rfl) rfl (fun Kb hK => ?_)
                  go_simp
                  refine (kn_once HL10.out (by have := HN.out.2.2.1; rw [HR.out.2.2.2]; omega) (by rw [HR.out.2.2.2]; intro l hl; have := sum_get_le ms l hl; have := HN.out.2.1; omega) ms _ (HX.out.below hS2)).mono ?_
                  rintro e Z3 ⟨rfl, hb⟩
                  rw [HR.out.2.2.2, decide_eq_true rfl]
                  have hS3 := hS2.trans (hb.mono hS2.size)
                  have HL11 := Lib.hid (HL10.out.below hb)
                  clear hb HL10
                  refine hK.out _ _ hS3 (fun _ => ?_)
                  clear hK Kb
                  try simp only [Act.put, List.setIfInBounds_toArray, List.set_cons_zero, List.set_cons_succ, HBQ.out, Bool.not_true, Bool.not_false]
                  refine' wpAnyH_take (i := 15) (oi := ⟨some 131, _, _, _, _, _⟩) (v := _) rfl (by kernel_rfl) (by kernel_rfl) (by kernel_rfl) (fun _ _ _ h => h) (Or.inl ⟨by rfl, ?y15b⟩) hS3 ?r15b
                  case y15b => (intro w' hSw; go_simp; try rfl)
                  try simp only [Act.put, List.setIfInBounds_toArray, List.set_cons_zero, List.set_cons_succ, HBQ.out, Bool.not_true, Bool.not_false]
                  refine' wpAnyH_take (i := 16) (oi := ⟨some 132, _, _, _, _, _⟩) (v := _) rfl (by kernel_rfl) (by kernel_rfl) (by kernel_rfl) (fun _ _ _ h => h) (Or.inl ⟨by rfl, ?y16b⟩) hS3 ?r16b
                  case y16b => (intro w' hSw; go_simp; try rfl)
                  try simp only [Act.put, List.setIfInBounds_toArray, List.set_cons_zero, List.set_cons_succ, HBQ.out, Bool.not_true, Bool.not_false]
                  refine' wpAnyH_take (i := 17) (oi := ⟨some 133, _, _, _, _, _⟩) (v := _) rfl (by kernel_rfl) (by kernel_rfl) (by kernel_rfl) (fun _ _ _ h => h) (Or.inl ⟨by rfl, ?y17b⟩) hS3 ?r17b
                  case y17b => (intro w' hSw; go_simp; try rfl)
                  try simp only [Act.put, List.setIfInBounds_toArray, List.set_cons_zero, List.set_cons_succ, HBQ.out, Bool.not_true, Bool.not_false]
                  refine' wpAnyH_take (i := 19) (oi := ⟨some 135, _, _, _, _, _⟩) (v := _) rfl (by kernel_rfl) (by kernel_rfl) (by kernel_rfl) (fun _ _ _ h => h) (Or.inl ⟨by rfl, ?y19b⟩) hS3 ?r19b
                  case y19b => (intro w' hSw; go_simp; try rfl)
                  try simp only [Act.put, List.setIfInBounds_toArray, List.set_cons_zero, List.set_cons_succ, HBQ.out, Bool.not_true, Bool.not_false]
                  refine' wpAnyH_take (i := 20) (oi := ⟨some 136, _, _, _, _, _⟩) (v := _) rfl (by kernel_rfl) (by kernel_rfl) (by kernel_rfl) (fun _ _ _ h => h) (Or.inl ⟨by rfl, ?y20b⟩) hS3 ?r20b
                  case y20b => (intro w' hSw; go_simp; try rfl)
                  try simp only [Act.put, List.setIfInBounds_toArray, List.set_cons_zero, List.set_cons_succ, HBQ.out, Bool.not_true, Bool.not_false]
                  refine held_one (i := 18) (by kernel_rfl) rfl (fun Kb hK => ?_)
                  go_simp
                  refine (kn_seg HL11.out).mono ?_
                  rintro e wx ⟨rfl, hwx⟩
                  rw [hwx, HR.out.2.1]
                  clear hwx wx
                  refine hK.out _ _ hS3 (fun _ => ?_)
                  clear hK Kb
                  try simp only [Act.put, List.setIfInBounds_toArray, List.set_cons_zero, List.set_cons_succ, HBQ.out, Bool.not_true, Bool.not_false]
                  refine' wpAnyH_take (i := 21) (oi := ⟨some 137, _, _, _, _, _⟩) (v := _) rfl (by kernel_rfl) (by kernel_rfl) (by kernel_rfl) (fun _ _ _ h => h) (Or.inl ⟨by rfl, ?y21b⟩) hS3 ?r21b
                  case y21b => (intro w' hSw; go_simp; try rfl)
                  try simp only [Act.put, List.setIfInBounds_toArray, List.set_cons_zero, List.set_cons_succ, HBQ.out, Bool.not_true, Bool.not_false]
                  refine' wpAnyH_take (i := 22) (oi := ⟨some 138, _, _, _, _, _⟩) (v := _) rfl (by kernel_rfl) (by kernel_rfl) (by kernel_rfl) (fun _ _ _ h => h) (Or.inl ⟨by rfl, ?y22b⟩) hS3 ?r22b
                  case y22b => (intro w' hSw; go_simp; try rfl)
                  try simp only [Act.put, List.setIfInBounds_toArray, List.set_cons_zero, List.set_cons_succ, HBQ.out, Bool.not_true, Bool.not_false]
                  refine' wpAnyH_take (i := 23) (oi := ⟨some 139, _, _, _, _, _⟩) (v := _) rfl (by kernel_rfl) (by kernel_rfl) (by kernel_rfl) (fun _ _ _ h => h) (Or.inl ⟨by rfl, ?y23b⟩) hS3 ?r23b
                  case y23b => (intro w' hSw; go_simp; try rfl)
                  try simp only [Act.put, List.setIfInBounds_toArray, List.set_cons_zero, List.set_cons_succ, HBQ.out, Bool.not_true, Bool.not_false]
                  refine held_one (i := 24) (by kernel_rfl) rfl (fun Kb hK => ?_)
                  go_simp
                  refine (known_any _ (HLD.out.1.below hS3)).mono ?_
                  rintro e Z4 ⟨rfl, hb⟩
                  have hS4 := hS3.trans (hb.mono hS3.size)
                  clear hb
                  refine hK.out _ _ hS4 (fun _ => ?_)
                  clear hK Kb
                  try simp only [Act.put, List.setIfInBounds_toArray, List.set_cons_zero, List.set_cons_succ, HBQ.out, Bool.not_true, Bool.not_false]
                  refine' wpAnyH_take (i := 25) (oi := ⟨some 141, _, _, _, _, _⟩) (v := _) rfl (by kernel_rfl) (by kernel_rfl) (by kernel_rfl) (fun _ _ _ h => h) (Or.inl ⟨by rfl, ?y25b⟩) hS4 ?r25b
                  case y25b => (intro w' hSw; go_simp; try rfl)
                  try simp only [Act.put, List.setIfInBounds_toArray, List.set_cons_zero, List.set_cons_succ, HBQ.out, Bool.not_true, Bool.not_false]
                  refine' wpAnyH_take (i := 26) (oi := ⟨some 6, _, _, _, _, _⟩) (v := _) rfl (by kernel_rfl) (by kernel_rfl) (by kernel_rfl) (fun _ _ _ h => h) (Or.inl ⟨by rfl, ?y26b⟩) hS4 ?r26b
                  case y26b => (intro w' hSw; go_simp; try rfl)
                  try simp only [Act.put, List.setIfInBounds_toArray, List.set_cons_zero, List.set_cons_succ, HBQ.out, Bool.not_true, Bool.not_false]
                  refine wpAnyH_done (by kernel_rfl) ?_ _
                  have HZ := Lib.hid hS4
                  clear hS0 hS2 hS3 hS4 HCV
                  go_wp2
                  go_ret
                  exact ⟨rfl, HZ.out⟩
end Go.Proofs.YtibifnknkphanaaGreatDoor

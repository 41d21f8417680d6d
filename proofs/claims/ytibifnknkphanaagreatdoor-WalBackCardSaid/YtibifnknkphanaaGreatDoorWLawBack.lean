/-
  The law WalBack.
-/
import Derived.Test.YtibifnknkphanaaGreatDoorWBackA
import Derived.Test.YtibifnknkphanaaGreatDoorWKnown
import Derived.Deep.CutBlock
import Derived.Deep.DeepCutAuto
namespace Go.Proofs.YtibifnknkphanaaGreatDoor
open Go.RowKit Go.Maps
open DskM WalM
set_option linter.unusedVariables false
set_option linter.unusedSimpArgs false
set_option maxRecDepth 100000
attribute [local go_sem] Oper.semAt_some

theorem bok : mayOpen nmW 100 = true := by kernel_rfl
theorem bmap_len (L : List WS.St) : (L.map (·.b)).length = L.length := List.length_map ..
theorem bstr (l m : List UInt8) : ((⟨l.toArray⟩ : ByteArray).toList == (⟨m.toArray⟩ : ByteArray).toList) = decide (l = m) := bytes_beq l m
set_option maxHeartbeats 16000000 in
theorem walBack_any (v : Value) (n : Int) (u : Value) (Ls : List WS.St) (O : List Int) (w : World) (hld : Ld w) (hv : WS.Sts w v Ls) (hn1 : -9223372036854775808 ≤ n) (hn2 : n ≤ 9223372036854775807) (hu : SlN w u O) :
    Calls Tryz.prog 4 #[v, .int .i64 n, u] w fun e w' => e = .returned (.bool true) ∧ Below w.heap.size w w' := by
  have hfo : Tryz.prog.follows .mixedOrders = true := by kernel_rfl
  obtain ⟨i0, hi, hy0, hy1, hy2⟩ := info_parts info_sl
  have hfar : Far (fun j => w.heap.size ≤ j) := hld.far (fun i hi => hi)
  have HLD := Lib.hid (And.intro hld hfar)
  have HV := Lib.hid hv
  have HU := Lib.hid hu
  have HN := Lib.hid (And.intro hn1 hn2)
  obtain ⟨A, c, rfl, hc, ha⟩ := id hv
  have HA := Lib.hid ha
  obtain ⟨A3, c3, rfl, hc3, hc4, ha3⟩ := id hu
  clear hld hfar hv hu ha ha3 hc hc3 hc4 hn1 hn2
  go_enter Tryz.func4, Tryz.ntmps4
  go_wp2_with fail
  refine (known_any w HLD.out.1).mono ?_
  rintro e w1 ⟨rfl, hb1⟩
  have HB1 := Lib.hid hb1
  have HMU := Lib.hid (WS.much_any _ Ls 60 (by omega) w1 (HV.out.below hb1))
  clear hb1
  go_wp2_with fail
  refine HMU.out.mono ?_
  rintro e w2 ⟨r, rfl, hb, hfew⟩
  have HB2 := Lib.hid (HB1.out.trans (hb.mono HB1.out.size))
  have HF := Lib.hid hfew
  clear hb hfew HMU HB1
  cases r with
  | true =>
    go_wp2
    go_ret
    exact ⟨rfl, HB2.out⟩
  | false =>
    have HF := Lib.hid (HF.out rfl)
    by_cases h1 : 300 < O.length
    · have h1i : (300 : Int) < (O.length : Int) := by omega
      go_wp2
      go_ret
      exact ⟨rfl, HB2.out⟩
    · have h1i : ¬ (300 : Int) < (O.length : Int) := by omega
      obtain ⟨bs, hbs⟩ : ∃ bs, bs = Ls.map (·.b) := ⟨_, rfl⟩
      have hbl : bs.length = Ls.length := by rw [hbs]; exact bmap_len Ls
      have hsum : (bs.map List.length).sum ≤ 20000 := by
        have := HF.out.2.1
        rw [hbs, List.map_map]
        exact this
      have hget : ∀ k (h : k < Ls.length) (h' : k < bs.length), Ls[k].b = bs[k] := fun k h h' => by subst hbs; rw [List.getElem_map]
      have hsmall : ∀ k (h : k < Ls.length), Ls[k].b.length ≤ 20000 := fun k h => (HF.out.2.2 _ (List.getElem_mem h)).1
      have HQ := Lib.hid (And.intro HF.out.1 (And.intro hbl (And.intro hsum (And.intro hget hsmall))))
      clear HF h1 hbs hbl hsum hget hsmall
      have HNEW := Lib.hid (show Calls Tryz.prog 16 #[.int .i64 200000] w2 _ from my_new 200000 w2 (by omega) (by omega))
      go_wp2_with fail
      refine HNEW.out.mono ?_
      rintro e w3 ⟨p, rfl, hm, hb⟩
      have hm' : My w.heap.size w3 p tS0 [] := hm.mono HB2.out.size
      have HB3 := Lib.hid (HB2.out.trans (hb.mono HB2.out.size))
      have HOP := Lib.hid (kn_open (r := (0, tS 2, gF nmW 1 [] [] 8, gL 1 [] [] 0)) hm' HB3.out.size (HLD.out.1.below HB3.out) HLD.out.2 nmW 100 bok (by show 200000 ≤ 1000000; omega) (by show 0 + 100 ≤ 1000000; omega) t_open)
      clear hm hm' hb HNEW HB2
      go_wp2_with fail
      refine HOP.out.mono ?_
      rintro e w4 ⟨g, hg, rfl, hl, hb⟩
      rw [if_pos trivial]
      have HL4 := Lib.hid hl
      have HB4 := Lib.hid (show Below w.heap.size w w4 from HB3.out.trans hb)
      clear hl hb hg HOP HB3
      go_wp2_with fail
      refine (lnum_any 0 w4).mono ?_
      rintro e wx ⟨rfl, hwx⟩
      rw [hwx]
      clear hwx wx
      go_wp2_with fail
      refine (kn_fuse HL4.out HB4.out.size n HN.out.1 HN.out.2).mono ?_
      rintro e w5 ⟨rfl, hl, hb⟩
      have hb5 : Below w.heap.size w w5 := HB4.out.trans hb
      obtain ⟨D0, T0, hm0⟩ := Lgs.mm (c := 0) (S := fuseS (tS 2) n) (F := gF nmW 1 [] [] 8) (Lo := gL 1 [] [] 0) hl hb5
      have HM0 := Lib.hid hm0
      have HST0 := Lib.hid (st_start n [])
      obtain ⟨S0, hS0⟩ : ∃ S0, S0 = fuseS (tS 2) n := ⟨_, rfl⟩
      obtain ⟨F0, hF0⟩ : ∃ F0, F0 = gF nmW 1 [] [] 8 := ⟨_, rfl⟩
      obtain ⟨Lo0, hLo0⟩ : ∃ Lo0, Lo0 = gL 1 [] [] 0 := ⟨_, rfl⟩
      rw [← hS0, ← hF0, ← hLo0] at HM0 HST0
      clear hS0 hF0 hLo0 hl hb hb5 hm0 HL4 HB4
      go_upto_block 0 with fail
      go_cut [11, 12, 13, 14, 15] (fun a b c d e wc => ∃ (D T : Nat → Prop) (S : Ds) (F : List Fp) (Lo : Lg) (sn said : List UInt8) (all sure : List (List UInt8)) (turning : Bool), a = .string ⟨sn.toArray⟩ ∧ b = .string ⟨said.toArray⟩ ∧ e = .bool turning ∧ Mm D T w wc g p S F Lo c d all sure ∧ S.cap = 200000 ∧ Fs F sn said all sure turning ∧ all.length ≤ 60)
      case first =>
        go_wp2_with fail
        go_loopw [11, 12, 13, 14, 15, 16] (fun a b c d e f wr => ∃ (i : Nat) (D T : Nat → Prop) (S : Ds) (F : List Fp) (Lo : Lg) (sn said : List UInt8) (all sure : List (List UInt8)) (turning : Bool), f = .int .i64 (i : Int) ∧ i ≤ Ls.length ∧ a = .string ⟨sn.toArray⟩ ∧ b = .string ⟨said.toArray⟩ ∧ e = .bool turning ∧ Mm D T w wr g p S F Lo c d all sure ∧ St i (cumF bs i) S F Lo sn said all sure turning) (fun _ _ _ _ _ f _ => Ls.length - (intOf f).toNat)
        case atStart => exact ⟨0, D0, T0, S0, F0, Lo0, [], [], [], [], false, rfl, Nat.zero_le _, rfl, rfl, rfl, HM0.out, HST0.out⟩
        case round =>
          obtain ⟨i, D, T, S, F, Lo, sn, said, all, sure, turning, rfl, hi2, rfl, rfl, rfl, hm, hst⟩ := hrel
          have hi60 : i ≤ 60 := by have := HQ.out.1; omega
          have HM := Lib.hid hm
          have HST := Lib.hid hst
          have HDE := Lib.hid hm.isDead
          clear HM0 HST0 hm hst
          by_cases hlt : i < Ls.length
          · have hki : (i : Int) < (Ls.length : Int) := by omega
            cases hd : S.dead with
            | true =>
              rw [hd] at HDE
              clear hd
              go_wp2_with fail
              refine HDE.out.mono ?_
              rintro e wx ⟨rfl, hwx⟩
              rw [hwx]
              clear hwx wx HDE
              go_wp2
              go_meet
              exact ⟨D, T, S, F, Lo, sn, said, all, sure, turning, rfl, rfl, rfl, HM.out, HST.out.capIs, HST.out.fs (by omega), by have := HST.out.allLe; omega⟩
            | false =>
              rw [hd] at HDE
              obtain ⟨hal, ht⟩ := HST.out.turn hd
              subst ht
              have HAL := Lib.hid hal
              clear hd hal HST
              obtain ⟨bb, o, rfl, hxx⟩ := HA.out (by omega)
              obtain ⟨hcs0, h0⟩ := hxx i hlt
              have hcs := hcs0.below HM.out.below
              obtain ⟨q0, _, _, q3, _⟩ := id hcs
              have hbk : i < bs.length := by have := HQ.out.2.1; omega
              have hsl := h0.b
              have hbsmall := HQ.out.2.2.2.2 i hlt
              rw [HQ.out.2.2.2.1 i hlt hbk] at hsl hbsmall
              have hcum := cumF_succ bs i hbk
              have hcle := cumF_le bs (i + 1)
              have hcl9 : cumF bs i + (8 + bs[i].length) ≤ 30000 := by have := HQ.out.2.2.1; omega
              obtain ⟨b, hbq⟩ : ∃ b, b = bs[i] := ⟨_, rfl⟩
              rw [← hbq] at hsl hbsmall hcum hcl9
              obtain ⟨A4, n4, c4, e4⟩ := hsl.shape
              have HCS := Lib.hid hcs0
              rw [e4] at q3 hsl
              have HSL := Lib.hid (And.intro hsl (And.intro hbsmall (And.intro hcum (And.intro hcl9 e4))))
              generalize hkd : Ls[i].kind = kd at q0
              clear hkd hxx hcs hcs0 h0 hsl hbsmall hcum hcle hcl9 hbq e4
              by_cases k1 : kd = 1
              · subst k1
                obtain ⟨xs, x0, x1, x2, x3⟩ := id HM.out.all
                obtain ⟨Aa, ca, ea⟩ := row_shape x1
                rw [ea] at x1
                have hxl : xs.length ≤ 60 := by have := HAL.out.allLen; omega
                have hoa := x1.alloc (.cells #[.slice A4 n4 c4] 22)
                have hcel : ∀ (j : Nat) (u : Value), [(.slice A4 n4 c4 : Value)][j]? = some u → (wr.alloc (.cells #[.slice A4 n4 c4] 22)).cell? ((⟨wr.heap.size, 0, none⟩ : Addr).add j) = some u := by
                  intro j u hu
                  have hj : j = 0 := by
                    have := (List.getElem?_eq_some_iff.1 hu).1
                    simpa using this
                  subst hj
                  rw [add_plain, (Blk.new wr 22 #[.slice A4 n4 c4]).cell]
                  simpa using hu
                have hone : ∀ u ∈ [(.slice A4 n4 c4 : Value)], u.oneCell' = true := by
                  intro u hu
                  obtain rfl := List.mem_singleton.1 hu
                  rfl
                have hl63 : xs.length + 1 ≤ maxLen := by unfold maxLen; omega
                have hby : (xs.length + 1) * 24 ≤ 140737488355328 := by omega
                have hbs9 : w.heap.size ≤ (wr.alloc (.cells #[.slice A4 n4 c4] 22)).heap.size := by have := HM.out.below.size; simp; omega
                have HOA := Lib.hid (And.intro hoa (And.intro hcel (And.intro hone (And.intro x0 x2))))
                subst ea
                clear hoa hcel hone x0 x1 x2 x3 hxl
                go_wp2_with fail
                refine HDE.out.mono ?_
                rintro e wx ⟨rfl, hwx⟩
                rw [hwx]
                clear hwx wx HDE
                go_wp2_with (at_builtin; go_loud (refine wpList_append_own_at _ rfl _ _ 27 rfl w.heap.size 22 i0 (.slice none 0 0) 1 24 Tryz.underlying27 hi hy0 hy1 hy2 rfl (by decide) (.slice Aa xs.length ca) xs.length xs rfl HOA.out.1 ⟨wr.heap.size, 0, none⟩ 1 1 [.slice A4 n4 c4] rfl rfl HOA.out.2.1 HOA.out.2.2.1 hl63 hby hbs9 ?_))
                intro v' w6 ho6 hg6 _ hat
                have hm6 := HM.out.app HLD.out.2 HSL.out.1 HOA.out.2.2.2.1 HOA.out.2.2.2.2 (al_one wr _) ho6 hg6 (hat.imp id (fun e => by rw [World.size_alloc]; exact e))
                obtain ⟨A6, c6, hv6⟩ := row_shape ho6
                subst hv6
                obtain ⟨rr, hrr⟩ : ∃ rr, rr = appendL nmW S F Lo b := ⟨_, rfl⟩
                have hst6 := HAL.out.append (b := b) (by omega) (by have := HSL.out.2.2.2.1; omega) HSL.out.2.1 said
                rw [← hrr, ← HSL.out.2.2.1] at hst6
                have HST6 := Lib.hid hst6
                have HM6 := Lib.hid hm6
                have HCALL := Lib.hid (wappend_any hm6.lw (by have := HAL.out.wr; omega) (by have := HAL.out.recs; omega) (by show 1 ≤ 1000000; omega) _ b (HSL.out.1.below hm6.below) hrr.symm)
                obtain ⟨_, _, _, q3', _⟩ := HCS.out.below hm6.below
                rw [HSL.out.2.2.2.2] at q3'
                clear q0 q3 hm6 hst6 hrr ho6 hg6 hat HOA HAL hl63 hby hbs9
                go_wp2_with fail
                refine HCALL.out.mono ?_
                rintro e w7 ⟨rfl, hlt7⟩
                obtain ⟨D7, T7, hm7⟩ := HM6.out.call hlt7
                have HM7 := Lib.hid hm7
                clear hm7 hlt7 HCALL
                go_wp2
                go_roundw
                case rel => exact ⟨i + 1, D7, T7, _, _, _, sn, said, _, sure, false, by go_num, by omega, rfl, rfl, rfl, HM7.out, HST6.out⟩
                case measure => simp [intOf]; omega
              · by_cases k2 : kd = 2
                · subst k2
                  have h21 : ((2 : Int) == 1) = false := by decide
                  obtain ⟨rr, hrr⟩ : ∃ rr, rr = syncL nmW S F Lo := ⟨_, rfl⟩
                  have hst6 := HAL.out.sync (by omega) said (8 + b.length)
                  rw [← hrr, ← HSL.out.2.2.1] at hst6
                  have HCALL := Lib.hid (wsync_any HM.out.lw (by have := HAL.out.wr; omega) (by have := HAL.out.recs; omega) (by show 1 ≤ 1000000; omega) hrr.symm)
                  have hal60 := HAL.out.allLen
                  clear hrr HAL k1
                  go_wp2_with fail
                  refine HDE.out.mono ?_
                  rintro e wx ⟨rfl, hwx⟩
                  rw [hwx]
                  clear hwx wx HDE
                  go_wp2_with fail
                  refine HCALL.out.mono ?_
                  rintro e w7 ⟨rfl, hlt7⟩
                  obtain ⟨D7, T7, hm7⟩ := HM.out.call hlt7
                  have HM7 := Lib.hid hm7
                  rcases hst6 with ⟨hz, hst⟩ | ⟨hz, hst⟩
                  · rw [hz]
                    have HST6 := Lib.hid hst
                    clear hm7 hlt7 hst hz HCALL
                    go_wp2_with fail
                    refine (lnum_any 0 _).mono ?_
                    rintro e wx ⟨rfl, hwx⟩
                    rw [hwx]
                    clear hwx wx
                    obtain ⟨xs, x0, x1, x2, x3⟩ := id HM7.out.all
                    rcases x1.2 with ⟨ea, ez⟩ | ⟨gg, cap, cur, ea, eg, eb, _, _, _, _⟩
                    · have hz0 : all = [] := List.eq_nil_of_length_eq_zero (by omega)
                      subst ea
                      clear x1 x3
                      go_wp2
                      go_roundw
                      case rel => exact ⟨i + 1, D7, T7, _, _, _, sn, said, _, _, false, by go_num, by omega, rfl, rfl, rfl, HM7.out.surenil, HST6.out⟩
                      case measure => simp [intOf]; omega
                    · rw [ea] at x1
                      have hcel : ∀ (j : Nat) (u : Value), xs[j]? = some u → w7.cell? ((⟨gg, 0, none⟩ : Addr).add j) = some u := by
                        intro j u hu
                        have hj := (List.getElem?_eq_some_iff.1 hu).1
                        rw [add_plain, Nat.zero_add, x1.cellAt j (by omega), hu]
                      have hone : ∀ u ∈ xs, u.oneCell' = true := by
                        intro u hu
                        obtain ⟨j, hj, e⟩ := List.getElem_of_mem hu
                        obtain ⟨A8, n8, c8, e8⟩ := (x2 j hj (by omega)).shape
                        rw [← e, e8]
                        rfl
                      have hl63 : 0 + xs.length ≤ maxLen := by unfold maxLen; omega
                      have hby : (0 + xs.length) * 24 ≤ 140737488355328 := by omega
                      have hlm : xs.length = xs.length * 1 := by omega
                      have HOA := Lib.hid (And.intro hcel (And.intro hone (And.intro x0 (And.intro x2 (And.intro hl63 (And.intro hby (And.intro hlm HM7.out.below.size)))))))
                      subst ea
                      clear hcel hone x0 x1 x2 x3 hl63 hby hlm eb
                      go_wp2_with (at_builtin; go_loud (refine wpList_append_own_at _ rfl _ _ 27 rfl w.heap.size 22 i0 (.slice none 0 0) 1 24 Tryz.underlying27 hi hy0 hy1 hy2 rfl (by decide) (.slice none 0 0) 0 [] rfl (World.ownsRow_nil _ _ _ _) ⟨gg, 0, none⟩ xs.length cap xs rfl HOA.out.2.2.2.2.2.2.1 HOA.out.1 HOA.out.2.1 HOA.out.2.2.2.2.1 HOA.out.2.2.2.2.2.1 HOA.out.2.2.2.2.2.2.2 ?_))
                      intro v' w8 ho8 hg8 _ hat
                      have hm8 := HM7.out.copy HLD.out.2 HOA.out.2.2.1 HOA.out.2.2.2.1 ho8 hg8 hat
                      have HM8 := Lib.hid hm8
                      obtain ⟨A6, c6, hv6⟩ := row_shape ho8
                      subst hv6
                      clear hm8 ho8 hg8 hat HOA
                      go_wp2
                      go_roundw
                      case rel => exact ⟨i + 1, D7, T7, _, _, _, sn, said, _, _, false, by go_num, by omega, rfl, rfl, rfl, HM8.out, HST6.out⟩
                      case measure => simp [intOf]; omega
                  · rw [hz]
                    have HST6 := Lib.hid hst
                    clear hm7 hlt7 hst hz HCALL
                    go_wp2_with fail
                    refine (lnum_any 8 _).mono ?_
                    rintro e wx ⟨rfl, hwx⟩
                    rw [hwx]
                    clear hwx wx
                    go_wp2
                    go_roundw
                    case rel => exact ⟨i + 1, D7, T7, _, _, _, sn, said, _, _, false, by go_num, by omega, rfl, rfl, rfl, HM7.out, HST6.out⟩
                    case measure => simp [intOf]; omega
                · by_cases k3 : kd = 3
                  · subst k3
                    have h31 : ((3 : Int) == 1) = false := by decide
                    have h32 : ((3 : Int) == 2) = false := by decide
                    obtain ⟨rr, hrr⟩ : ∃ rr, rr = turnL nmW S F Lo b := ⟨_, rfl⟩
                    have hst6 := HAL.out.turn (b := b) (by omega) (by have := HSL.out.2.2.2.1; omega) HSL.out.2.1
                    rw [← hrr, ← HSL.out.2.2.1] at hst6
                    have HCALL := Lib.hid (wturn_any HM.out.lw (by have := HAL.out.wr; omega) (by have := HAL.out.recs; omega) (by show 1 ≤ 1000000; omega) _ b (HSL.out.1.below HM.out.below) hrr.symm)
                    have hcv : (convert 22 9 (.slice A4 n4 c4)).run Tryz.prog wr = .ok (.string ⟨b.toArray⟩) wr := conv_w (HSL.out.1.below HM.out.below) rfl
                    clear hrr HAL k1 k2
                    go_wp2_with fail
                    refine HDE.out.mono ?_
                    rintro e wx ⟨rfl, hwx⟩
                    rw [hwx]
                    clear hwx wx HDE
                    go_wp2_with fail
                    refine HCALL.out.mono ?_
                    rintro e w7 ⟨rfl, hlt7⟩
                    obtain ⟨D7, T7, hm7⟩ := HM.out.call hlt7
                    have HM7 := Lib.hid hm7
                    rcases hst6 with ⟨hz, hst⟩ | ⟨hz, hst⟩
                    · rw [hz]
                      have HST6 := Lib.hid hst
                      clear hm7 hlt7 hst hz HCALL hcv
                      go_wp2_with fail
                      refine (lnum_any 0 _).mono ?_
                      rintro e wx ⟨rfl, hwx⟩
                      rw [hwx]
                      clear hwx wx
                      go_wp2
                      go_roundw
                      case rel => exact ⟨i + 1, D7, T7, _, _, _, b, b, _, _, false, by go_num, by omega, rfl, rfl, rfl, HM7.out.drop, HST6.out⟩
                      case measure => simp [intOf]; omega
                    · rw [hz]
                      have HST6 := Lib.hid hst
                      clear hm7 hlt7 hst hz HCALL hcv
                      go_wp2_with fail
                      refine (lnum_any 8 _).mono ?_
                      rintro e wx ⟨rfl, hwx⟩
                      rw [hwx]
                      clear hwx wx
                      go_wp2
                      go_roundw
                      case rel => exact ⟨i + 1, D7, T7, _, _, _, sn, b, _, _, true, by go_num, by omega, rfl, rfl, rfl, HM7.out, HST6.out⟩
                      case measure => simp [intOf]; omega
                  · have hst6 : St (i + 1) (cumF bs (i + 1)) S F Lo sn said all sure false := by
                      rw [HSL.out.2.2.1]
                      exact .alive (HAL.out.skip _) rfl
                    have HST6 := Lib.hid hst6
                    have k1b : (kd == 1) = false := by simp [k1]
                    have k2b : (kd == 2) = false := by simp [k2]
                    have k3b : (kd == 3) = false := by simp [k3]
                    clear hst6 HAL
                    go_wp2_with fail
                    refine HDE.out.mono ?_
                    rintro e wx ⟨rfl, hwx⟩
                    rw [hwx]
                    clear hwx wx HDE
                    go_wp2
                    go_roundw
                    case rel => exact ⟨i + 1, D, T, _, _, _, sn, said, _, _, false, by go_num, by omega, rfl, rfl, rfl, HM.out, HST6.out⟩
                    case measure => simp [intOf]; omega
          · obtain rfl : i = Ls.length := by omega
            clear HDE
            go_wp2
            go_meet
            exact ⟨D, T, S, F, Lo, sn, said, all, sure, turning, rfl, rfl, rfl, HM.out, HST.out.capIs, HST.out.fs (by omega), by have := HST.out.allLe; omega⟩
      case rest =>
        obtain ⟨D, T, S, F, Lo, sn, said, all, sure, turning, rfl, rfl, rfl, hm, hcap, hfs, hall⟩ := hcut
        obtain ⟨k2, wr2, sn', got, hop, hk1, hk2, hwr, hsm, hgl, hor⟩ := back_open hfs O
        obtain ⟨rr, hrr⟩ : ∃ rr : Out, rr = (0, tS wr2, gF nmW k2 sn' got (flat (sn' :: got)).length, gL k2 sn' got got.length) := ⟨_, rfl⟩
        have HR := Lib.hid (show rr.1 = 0 ∧ rr.2.2.2.snap = sn' ∧ rr.2.2.2.recs = got ∧ rr.2.1.cap = 200000 ∧ rr.2.2.1 = gF nmW k2 sn' got (flat (sn' :: got)).length by subst hrr; exact ⟨rfl, rfl, rfl, rfl, rfl⟩)
        have HFACT := Lib.hid (And.intro hsm (And.intro (show got.length ≤ 60 by omega) (And.intro hk1 hk2)))
        have HOR := Lib.hid hor
        rw [← hrr] at hop
        have HCR := Lib.hid (my_crash (hm.lgs 0).my O _ (HU.out.below hm.below))
        have HOPQ := Lib.hid hop
        have HCAP := Lib.hid hcap
        have HM := Lib.hid hm
        obtain ⟨sA, hsA⟩ : ∃ s : ByteArray, (⟨sn.toArray⟩ : ByteArray) = s := ⟨_, rfl⟩
        obtain ⟨sB, hsB⟩ : ∃ s : ByteArray, (⟨said.toArray⟩ : ByteArray) = s := ⟨_, rfl⟩
        obtain ⟨sY, hsY⟩ : ∃ s : ByteArray, (⟨sn'.toArray⟩ : ByteArray) = s := ⟨_, rfl⟩
        have HQA := Lib.hid (show (sY.toList == sA.toList) = decide (sn' = sn) by rw [← hsA, ← hsY]; exact bstr _ _)
        have HQB := Lib.hid (show (sY.toList == sB.toList) = decide (sn' = said) by rw [← hsB, ← hsY]; exact bstr _ _)
        have HSY := Lib.hid hsY
        rw [hsA, hsB]
        have HLS := Lib.hid (show ∀ X, Below wc.heap.size wc X → Sls X _ all ∧ Sls X _ sure from fun X hX => ⟨(hm.later hX).all.sls (hm.later hX).below, (hm.later hX).sure.sls (hm.later hX).below⟩)
        obtain ⟨Aa, ca, ea⟩ := hm.all.shape
        obtain ⟨As, cs, es⟩ := hm.sure.shape
        have hal60 : all.length ≤ 60 := hall
        rw [ea, es] at HLS
        have HBC := Lib.hid hm.below
        subst ea es
        clear hsA hsB hsY hm hcap hfs hop hrr hor hsm hgl hwr hk1 hk2 hall HM0 HST0
        go_wp2_with fail
        refine HCR.out.mono ?_
        rintro e w8 ⟨p2, rfl, hm8, hb8⟩
        rw [HCAP.out] at hm8
        have HB8 := Lib.hid (HBC.out.trans (hb8.mono HBC.out.size))
        have HB8c := Lib.hid hb8
        have HOP := Lib.hid (kn_open hm8 hb8.size (HLD.out.1.below HB8.out) (fun j hj => HLD.out.2 j (Nat.le_trans HBC.out.size hj)) nmW 100 bok (by show 200000 ≤ 1000000; omega) (by show 0 + 100 ≤ 1000000; omega) HOPQ.out)
        clear hm8 hb8 HCR HCAP HOPQ
        go_wp2_with fail
        refine HOP.out.mono ?_
        rintro e w9 ⟨g2, hg, rfl, hl, hb⟩
        rw [if_pos HR.out.1, HR.out.1]
        have HL9 := Lib.hid hl
        have HB9c := Lib.hid (HB8c.out.trans hb)
        have HB9 := Lib.hid (HBC.out.trans (HB9c.out.mono HBC.out.size))
        have HLS9 := Lib.hid (HLS.out w9 HB9c.out)
        clear hg HOP HB8 HB8c HLS hl hb HB9c
        have HLS := Lib.hid HLS9.out
        clear HLS9
        go_wp2_with fail
        refine (lnum_any 0 w9).mono ?_
        rintro e wx ⟨rfl, hwx⟩
        rw [hwx]
        clear hwx wx
        go_wp2_with fail
        refine (kn_gather HL9.out (by have := HFACT.out.2.1; rw [HR.out.2.2.1]; omega) (by rw [HR.out.2.2.1]; intro l hl; have := HFACT.out.1 l (List.mem_cons_of_mem _ hl); omega)).mono ?_
        rintro e w10 ⟨vg, rfl, hsg, hb⟩
        rw [HR.out.2.2.1] at hsg
        obtain ⟨Ag, cg, eg, _⟩ := id hsg
        subst eg
        have HG := Lib.hid hsg
        have HL10 := Lib.hid (HL9.out.below hb)
        have HB10 := Lib.hid (HB9.out.trans (hb.mono HB9.out.size))
        have HLS10 := Lib.hid (And.intro (HLS.out.1.below hb) (HLS.out.2.below hb))
        have hgl : got.length ≤ 60 := HFACT.out.2.1
        clear hsg hb HL9 HB9 HLS
        go_upto_region 32 with (fail)
        go_cut [21] (fun x wc => x = .bool (decide (sn' = sn ∧ sure <+: got ∧ got <+: all)) ∧ Below w10.heap.size w10 wc)
        case first =>
          go_wp2_with fail
          refine (kn_snap HL10.out (by rw [HR.out.2.1]; have := HFACT.out.1 sn' (List.mem_cons_self ..); omega)).mono ?_
          rintro e w11 ⟨v6, rfl, ho, hb⟩
          rw [HR.out.2.1] at ho
          have hsl6 : Sl w11 v6 sn' := ho.sl
          obtain ⟨A6, n6, c6, rfl⟩ := hsl6.shape
          have hcv := conv_w hsl6 HSY.out
          have HB11 := Lib.hid hb
          clear ho hsl6 hb
          cases hq : decide (sn' = sn) with
          | false =>
            have hqa : (sY.toList == sA.toList) = false := by rw [HQA.out, hq]
            have HE := Lib.hid (of_decide_eq_false hq)
            clear hq
            go_wp2_with fail
            go_meet
            exact ⟨congrArg Value.bool (decide_eq_false (fun h => HE.out h.1)).symm, HB11.out⟩
          | true =>
            have hqa : (sY.toList == sA.toList) = true := by rw [HQA.out, hq]
            have HE := Lib.hid (of_decide_eq_true hq)
            clear hq
            go_wp2_with fail
            refine (begins_any _ _ got sure w11 (HG.out.below HB11.out) (HLS10.out.2.below HB11.out) (by omega)).mono ?_
            rintro e w12 ⟨rfl, hb⟩
            have HB12 := Lib.hid (HB11.out.trans (hb.mono HB11.out.size))
            clear hb hcv
            cases hq : decide (sure <+: got) with
            | false =>
              have HE2 := Lib.hid (of_decide_eq_false hq)
              clear hq
              go_wp2_with fail
              go_meet
              exact ⟨congrArg Value.bool (decide_eq_false (fun h => HE2.out h.2.1)).symm, HB12.out⟩
            | true =>
              have HE2 := Lib.hid (of_decide_eq_true hq)
              clear hq
              go_wp2_with fail
              refine (begins_any _ _ all got w12 (HLS10.out.1.below HB12.out) (HG.out.below HB12.out) (by omega)).mono ?_
              rintro e w13 ⟨rfl, hb⟩
              have HB13 := Lib.hid (HB12.out.trans (hb.mono HB12.out.size))
              have HE3 := Lib.hid (show decide (got <+: all) = decide (sn' = sn ∧ sure <+: got ∧ got <+: all) by
                by_cases h : got <+: all
                · rw [decide_eq_true h, decide_eq_true ⟨HE.out, HE2.out, h⟩]
                · rw [decide_eq_false h, decide_eq_false (fun h2 => h h2.2.2)])
              clear hb
              go_wp2_with fail
              go_meet
              exact ⟨congrArg Value.bool HE3.out, HB13.out⟩
        case rest =>
          obtain ⟨rfl, hbx⟩ := hcut
          have HL11 := Lib.hid (HL10.out.below hbx)
          have HB11 := Lib.hid (HB10.out.trans (hbx.mono HB10.out.size))
          have HG11 := Lib.hid (HG.out.below hbx)
          clear hbx HL10 HB10 HG HLS10
          obtain ⟨q1, hq1⟩ : ∃ q, q = decide (sn' = sn ∧ sure <+: got ∧ got <+: all) := ⟨_, rfl⟩
          rw [← hq1]
          have HQ1 := Lib.hid hq1
          clear hq1
          go_upto_region 33 with (fail)
          go_cut [22] (fun x wd => x = .bool (decide (turning = true ∧ sn' = said ∧ got = [])) ∧ Below wc.heap.size wc wd)
          case first =>
            cases turning with
            | false =>
              go_wp2_with fail
              go_meet
              exact ⟨congrArg Value.bool (decide_eq_false (fun h => by cases h.1)).symm, Below.refl _ _⟩
            | true =>
              go_wp2_with fail
              refine (kn_snap HL11.out (by rw [HR.out.2.1]; have := HFACT.out.1 sn' (List.mem_cons_self ..); omega)).mono ?_
              rintro e w12 ⟨v6, rfl, ho, hb⟩
              rw [HR.out.2.1] at ho
              have hsl6 : Sl w12 v6 sn' := ho.sl
              obtain ⟨A6, n6, c6, rfl⟩ := hsl6.shape
              have hcv := conv_w hsl6 HSY.out
              have HB12 := Lib.hid hb
              clear ho hsl6 hb
              cases hq : decide (sn' = said) with
              | false =>
                have hqa : (sY.toList == sB.toList) = false := by rw [HQB.out, hq]
                have HE := Lib.hid (of_decide_eq_false hq)
                clear hq
                go_wp2_with fail
                go_meet
                exact ⟨congrArg Value.bool (decide_eq_false (fun h => HE.out h.2.1)).symm, HB12.out⟩
              | true =>
                have hqa : (sY.toList == sB.toList) = true := by rw [HQB.out, hq]
                have HE := Lib.hid (of_decide_eq_true hq)
                have HE3 := Lib.hid (show ((got.length : Int) == 0) = decide (true = true ∧ sn' = said ∧ got = []) by
                  by_cases h : got = []
                  · rw [decide_eq_true ⟨rfl, HE.out, h⟩, h]; rfl
                  · rw [decide_eq_false (fun h2 => h h2.2.2), beq_eq_false_iff_ne]
                    exact fun e => h (List.eq_nil_of_length_eq_zero (by omega)))
                clear hq
                go_wp2_with fail
                go_meet
                refine ⟨?_, HB12.out⟩
                first
                  | exact congrArg Value.bool HE3.out
                  | (have := HE3.out; simp_all)
          case rest =>
            obtain ⟨rfl, hbx⟩ := hcut
            have HL12 := Lib.hid (HL11.out.below hbx)
            have HB12 := Lib.hid (HB11.out.trans (hbx.mono HB11.out.size))
            have HG12 := Lib.hid (HG11.out.below hbx)
            clear hbx HL11 HB11 HG11
            obtain ⟨q2, hq2⟩ : ∃ q, q = decide (turning = true ∧ sn' = said ∧ got = []) := ⟨_, rfl⟩
            rw [← hq2]
            have HQ2 := Lib.hid (show q1 = false → q2 = true from fun e => by
              rw [HQ1.out] at e
              rw [hq2]
              rcases HOR.out with h | h
              · exact absurd h (of_decide_eq_false e)
              · exact decide_eq_true h)
            clear hq2
            obtain ⟨wr3, hop3, hwr3⟩ := back_again k2 sn' got HFACT.out.2.2.1 HFACT.out.2.2.2 HFACT.out.1
            obtain ⟨rz, hrz⟩ : ∃ rz : Out, rz = (0, tS wr3, gF nmW k2 sn' got (flat (sn' :: got)).length, gL k2 sn' got got.length) := ⟨_, rfl⟩
            rw [← hrz] at hop3
            have HZR := Lib.hid (show rz.1 = 0 ∧ rz.2.2.2.snap = sn' ∧ rz.2.2.2.recs = got by subst hrz; exact ⟨rfl, rfl, rfl⟩)
            have HOPQ := Lib.hid hop3
            have HCR := Lib.hid (my_crash HL12.out.my [] _ (SlN.nil _ none 0 (by omega)))
            clear hop3 hrz hwr3
            go_wp2_with fail
            refine HCR.out.mono ?_
            rintro e w13 ⟨p3, rfl, hm8, hb8⟩
            rw [HR.out.2.2.2.1, HR.out.2.2.2.2] at hm8
            have HB13 := Lib.hid (HB12.out.trans (hb8.mono HB12.out.size))
            have HOP := Lib.hid (kn_open hm8 hb8.size (HLD.out.1.below HB13.out) (fun j hj => HLD.out.2 j (Nat.le_trans HB12.out.size hj)) nmW 100 bok (by show 200000 ≤ 1000000; omega) (by show 0 + 100 ≤ 1000000; omega) HOPQ.out)
            have HB8d := Lib.hid hb8
            clear hm8 hb8 HCR HOPQ
            go_wp2_with fail
            refine HOP.out.mono ?_
            rintro e w14 ⟨g3, hg, rfl, hl, hb⟩
            rw [if_pos HZR.out.1, HZR.out.1]
            have HL14 := Lib.hid hl
            have hb2 := HB8d.out.trans hb
            have HB14 := Lib.hid (HB12.out.trans (hb2.mono HB12.out.size))
            have HLY := Lib.hid (HL12.out.below hb2)
            have HGY := Lib.hid (HG12.out.below hb2)
            clear hl hb hb2 hg HOP HB13 HB8d HL12 HB12 HG12
            have HBQ := Lib.hid (show (sY.toList == sY.toList) = true by simp)
            cases q1 with
            | true =>
              go_wp2_with fail
              have HBD := Lib.hid HB14.out.drew
              have HLA := Lib.hid (HL14.out.below ((Below.refl w14.heap.size w14).drew))
              have HLYA := Lib.hid (HLY.out.below ((Below.refl w14.heap.size w14).drew))
              have HGYA := Lib.hid (HGY.out.below ((Below.refl w14.heap.size w14).drew))
              refine wp_region_held_drew (S := fun X => Below w.heap.size w X) hfo HBD.out (fun hS0 => ?_)
              generalize w14.drew = Z0 at hS0 HLA HLYA HGYA ⊢
              clear HBD HL14 HLY HGY HB14
              refine' wpAnyH_take (i := 0) (oi := ⟨some 155, _, _, _, _, _⟩) (v := _) rfl (by kernel_rfl) (by kernel_rfl) (by kernel_rfl) (fun _ _ _ h => h) (Or.inl ⟨by rfl, ?y0a7⟩) hS0 ?r0a7
              case y0a7 => (intro w' hSw; go_simp; try rfl)
              try simp only [Act.put, List.setIfInBounds_toArray, List.set_cons_zero, List.set_cons_succ, HBQ.out, Bool.not_true, Bool.not_false]
              refine' wpAnyH_take (i := 1) (oi := ⟨some 156, _, _, _, _, _⟩) (v := _) rfl (by kernel_rfl) (by kernel_rfl) (by kernel_rfl) (fun _ _ _ h => h) (Or.inl ⟨by rfl, ?y1a10⟩) hS0 ?r1a10
              case y1a10 => (intro w' hSw; go_simp; try rfl)
              try simp only [Act.put, List.setIfInBounds_toArray, List.set_cons_zero, List.set_cons_succ, HBQ.out, Bool.not_true, Bool.not_false]
              refine' wpAnyH_take (i := 2) (oi := ⟨some 157, _, _, _, _, _⟩) (v := undef) rfl (by kernel_rfl) (by kernel_rfl) (by kernel_rfl) (fun _ _ _ h => h) (Or.inr ⟨by rfl, rfl⟩) hS0 ?r2a13
              try simp only [Act.put, List.setIfInBounds_toArray, List.set_cons_zero, List.set_cons_succ, HBQ.out, Bool.not_true, Bool.not_false]
              refine' wpAnyH_take (i := 3) (oi := ⟨some 158, _, _, _, _, _⟩) (v := _) rfl (by kernel_rfl) (by kernel_rfl) (by kernel_rfl) (fun _ _ _ h => h) (Or.inl ⟨by rfl, ?y3a15⟩) hS0 ?r3a15
              case y3a15 => (intro w' hSw; go_simp; try rfl)
              try simp only [Act.put, List.setIfInBounds_toArray, List.set_cons_zero, List.set_cons_succ, HBQ.out, Bool.not_true, Bool.not_false]
              refine' wpAnyH_take (i := 4) (oi := ⟨some 159, _, _, _, _, _⟩) (v := _) rfl (by kernel_rfl) (by kernel_rfl) (by kernel_rfl) (fun _ _ _ h => h) (Or.inl ⟨by rfl, ?y4a18⟩) hS0 ?r4a18
              case y4a18 => (intro w' hSw; go_simp; try rfl)
              try simp only [Act.put, List.setIfInBounds_toArray, List.set_cons_zero, List.set_cons_succ, HBQ.out, Bool.not_true, Bool.not_false]
              refine' wpAnyH_take (i := 5) (oi := ⟨some 160, _, _, _, _, _⟩) (v := _) rfl (by kernel_rfl) (by kernel_rfl) (by kernel_rfl) (fun _ _ _ h => h) (Or.inl ⟨by rfl, ?y5a21⟩) hS0 ?r5a21
              case y5a21 => (intro w' hSw; go_simp; try rfl)
              try simp only [Act.put, List.setIfInBounds_toArray, List.set_cons_zero, List.set_cons_succ, HBQ.out, Bool.not_true, Bool.not_false]
              refine held_one (i := 6) (by kernel_rfl) rfl (fun Ka hKa => ?_)
              go_simp
              refine (lnum_any 0 _).mono ?_
              rintro e wx ⟨rfl, hwx⟩
              rw [hwx]
              clear hwx wx
              refine hKa.out _ _ hS0 (fun _ => ?_)
              clear hKa Ka
              try simp only [Act.put, List.setIfInBounds_toArray, List.set_cons_zero, List.set_cons_succ, HBQ.out, Bool.not_true, Bool.not_false]
              refine' wpAnyH_take (i := 7) (oi := ⟨some 162, _, _, _, _, _⟩) (v := _) rfl (by kernel_rfl) (by kernel_rfl) (by kernel_rfl) (fun _ _ _ h => h) (Or.inl ⟨by rfl, ?y7a33⟩) hS0 ?r7a33
              case y7a33 => (intro w' hSw; go_simp; try rfl)
              try simp only [Act.put, List.setIfInBounds_toArray, List.set_cons_zero, List.set_cons_succ, HBQ.out, Bool.not_true, Bool.not_false]
              refine' wpAnyH_take (i := 8) (oi := ⟨some 163, _, _, _, _, _⟩) (v := _) rfl (by kernel_rfl) (by kernel_rfl) (by kernel_rfl) (fun _ _ _ h => h) (Or.inl ⟨by rfl, ?y8a36⟩) hS0 ?r8a36
              case y8a36 => (intro w' hSw; go_simp; try rfl)
              try simp only [Act.put, List.setIfInBounds_toArray, List.set_cons_zero, List.set_cons_succ, HBQ.out, Bool.not_true, Bool.not_false]
              refine' wpAnyH_take (i := 9) (oi := ⟨some 164, _, _, _, _, _⟩) (v := _) rfl (by kernel_rfl) (by kernel_rfl) (by kernel_rfl) (fun _ _ _ h => h) (Or.inl ⟨by rfl, ?y9a39⟩) hS0 ?r9a39
              case y9a39 => (intro w' hSw; go_simp; try rfl)
              try simp only [Act.put, List.setIfInBounds_toArray, List.set_cons_zero, List.set_cons_succ, HBQ.out, Bool.not_true, Bool.not_false]
              refine' wpAnyH_take (i := 10) (oi := ⟨some 165, _, _, _, _, _⟩) (v := _) rfl (by kernel_rfl) (by kernel_rfl) (by kernel_rfl) (fun _ _ _ h => h) (Or.inl ⟨by rfl, ?y10a42⟩) hS0 ?r10a42
              case y10a42 => (intro w' hSw; go_simp; try rfl)
              try simp only [Act.put, List.setIfInBounds_toArray, List.set_cons_zero, List.set_cons_succ, HBQ.out, Bool.not_true, Bool.not_false]
              refine' wpAnyH_take (i := 13) (oi := ⟨some 168, _, _, _, _, _⟩) (v := _) rfl (by kernel_rfl) (by kernel_rfl) (by kernel_rfl) (fun _ _ _ h => h) (Or.inl ⟨by rfl, ?y13a45⟩) hS0 ?r13a45
              case y13a45 => (intro w' hSw; go_simp; try rfl)
              try simp only [Act.put, List.setIfInBounds_toArray, List.set_cons_zero, List.set_cons_succ, HBQ.out, Bool.not_true, Bool.not_false]
              refine held_one (i := 11) (by kernel_rfl) rfl (fun Ka hKa => ?_)
              go_simp
              refine (kn_snap HLA.out (by rw [HZR.out.2.1]; have := HFACT.out.1 sn' (List.mem_cons_self ..); omega)).mono ?_
              rintro e Z1 ⟨v6, rfl, ho, hb⟩
              rw [HZR.out.2.1] at ho
              have hsl6 : Sl Z1 v6 sn' := ho.sl
              obtain ⟨A6, n6, c6, rfl⟩ := hsl6.shape
              have HSL6 := Lib.hid hsl6
              have hS1 := hS0.trans (hb.mono hS0.size)
              have HLA1 := Lib.hid (HLA.out.below hb)
              have HLY1 := Lib.hid (HLYA.out.below hb)
              have HGY1 := Lib.hid (HGYA.out.below hb)
              clear ho hb hsl6 HLA HLYA HGYA
              refine hKa.out _ _ hS1 (fun _ => ?_)
              clear hKa Ka
              try simp only [Act.put, List.setIfInBounds_toArray, List.set_cons_zero, List.set_cons_succ, HBQ.out, Bool.not_true, Bool.not_false]
              refine held_two (i := 12) (j := 14) (by kernel_rfl) rfl rfl (fun Ka hKa => ?_) (fun Ka hKa => ?_)
              · have hcv := conv_w HSL6.out HSY.out
                go_simp
                refine hKa.out _ _ hS1 (fun _ => ?_)
                clear hKa Ka
                try simp only [Act.put, List.setIfInBounds_toArray, List.set_cons_zero, List.set_cons_succ, HBQ.out, Bool.not_true, Bool.not_false]
                refine held_one (i := 14) (by kernel_rfl) rfl (fun Ka hKa => ?_)
                go_simp
                refine (kn_snap HLY1.out (by rw [HR.out.2.1]; have := HFACT.out.1 sn' (List.mem_cons_self ..); omega)).mono ?_
                rintro e Z2 ⟨v7, rfl, ho, hb⟩
                rw [HR.out.2.1] at ho
                have hsl7 : Sl Z2 v7 sn' := ho.sl
                obtain ⟨A7, n7, c7, rfl⟩ := hsl7.shape
                have HSL7 := Lib.hid hsl7
                have hS2 := hS1.trans (hb.mono hS1.size)
                have HSL62 := Lib.hid (HSL6.out.below hb)
                have HLA2 := Lib.hid (HLA1.out.below hb)
                have HGY2 := Lib.hid (HGY1.out.below hb)
                clear ho hb hsl7 HLA1 HLY1 HGY1
                refine hKa.out _ _ hS2 (fun _ => ?_)
                clear hKa Ka
                try simp only [Act.put, List.setIfInBounds_toArray, List.set_cons_zero, List.set_cons_succ, HBQ.out, Bool.not_true, Bool.not_false]
                refine held_one (i := 15) (by kernel_rfl) rfl (fun Ka hKa => ?_)
                have hcv := conv_w HSL7.out HSY.out
                go_simp
                refine hKa.out _ _ hS2 (fun _ => ?_)
                clear hKa Ka
                try simp only [Act.put, List.setIfInBounds_toArray, List.set_cons_zero, List.set_cons_succ, HBQ.out, Bool.not_true, Bool.not_false]
                refine' wpAnyH_take (i := 16) (oi := ⟨some 171, _, _, _, _, _⟩) (v := _) rfl (by kernel_rfl) (by kernel_rfl) (by kernel_rfl) (fun _ _ _ h => h) (Or.inl ⟨by rfl, ?y16a92⟩) hS2 ?r16a92
                case y16a92 => (intro w' hSw; go_simp; try rfl)
                try simp only [Act.put, List.setIfInBounds_toArray, List.set_cons_zero, List.set_cons_succ, HBQ.out, Bool.not_true, Bool.not_false]
                refine' wpAnyH_take (i := 17) (oi := ⟨some 172, _, _, _, _, _⟩) (v := _) rfl (by kernel_rfl) (by kernel_rfl) (by kernel_rfl) (fun _ _ _ h => h) (Or.inl ⟨by rfl, ?y17a95⟩) hS2 ?r17a95
                case y17a95 => (intro w' hSw; go_simp; try rfl)
                try simp only [Act.put, List.setIfInBounds_toArray, List.set_cons_zero, List.set_cons_succ, HBQ.out, Bool.not_true, Bool.not_false]
                refine' wpAnyH_take (i := 18) (oi := ⟨some 173, _, _, _, _, _⟩) (v := _) rfl (by kernel_rfl) (by kernel_rfl) (by kernel_rfl) (fun _ _ _ h => h) (Or.inl ⟨by rfl, ?y18a98⟩) hS2 ?r18a98
                case y18a98 => (intro w' hSw; go_simp; try rfl)
                try simp only [Act.put, List.setIfInBounds_toArray, List.set_cons_zero, List.set_cons_succ, HBQ.out, Bool.not_true, Bool.not_false]
                refine' wpAnyH_take (i := 19) (oi := ⟨some 174, _, _, _, _, _⟩) (v := _) rfl (by kernel_rfl) (by kernel_rfl) (by kernel_rfl) (fun _ _ _ h => h) (Or.inl ⟨by rfl, ?y19a101⟩) hS2 ?r19a101
                case y19a101 => (intro w' hSw; go_simp; try rfl)
                try simp only [Act.put, List.setIfInBounds_toArray, List.set_cons_zero, List.set_cons_succ, HBQ.out, Bool.not_true, Bool.not_false]
                refine' wpAnyH_take (i := 21) (oi := ⟨some 176, _, _, _, _, _⟩) (v := _) rfl (by kernel_rfl) (by kernel_rfl) (by kernel_rfl) (fun _ _ _ h => h) (Or.inl ⟨by rfl, ?y21a104⟩) hS2 ?r21a104
                case y21a104 => (intro w' hSw; go_simp; try rfl)
                try simp only [Act.put, List.setIfInBounds_toArray, List.set_cons_zero, List.set_cons_succ, HBQ.out, Bool.not_true, Bool.not_false]
                refine held_one (i := 20) (by kernel_rfl) rfl (fun Ka hKa => ?_)
                go_simp
                refine (kn_gather HLA2.out (by rw [HZR.out.2.2]; omega) (by rw [HZR.out.2.2]; intro l hl; have := HFACT.out.1 l (List.mem_cons_of_mem _ hl); omega)).mono ?_
                rintro e Z3 ⟨vz, rfl, hsz, hb⟩
                rw [HZR.out.2.2] at hsz
                obtain ⟨Az, cz, ez, _⟩ := id hsz
                subst ez
                have HSZ := Lib.hid hsz
                have hS3 := hS2.trans (hb.mono hS2.size)
                have HGY3 := Lib.hid (HGY2.out.below hb)
                clear hsz hb HLA2 HGY2
                refine hKa.out _ _ hS3 (fun _ => ?_)
                clear hKa Ka
                try simp only [Act.put, List.setIfInBounds_toArray, List.set_cons_zero, List.set_cons_succ, HBQ.out, Bool.not_true, Bool.not_false]
                refine held_one (i := 22) (by kernel_rfl) rfl (fun Ka hKa => ?_)
                go_simp
                refine (sameLists_any _ _ got got _ HSZ.out HGY3.out (by omega)).mono ?_
                rintro e Z4 ⟨rfl, hb⟩
                rw [decide_eq_true rfl]
                have hS4 := hS3.trans (hb.mono hS3.size)
                clear hb
                refine hKa.out _ _ hS4 (fun _ => ?_)
                clear hKa Ka
                try simp only [Act.put, List.setIfInBounds_toArray, List.set_cons_zero, List.set_cons_succ, HBQ.out, Bool.not_true, Bool.not_false]
                refine' wpAnyH_take (i := 23) (oi := ⟨some 178, _, _, _, _, _⟩) (v := _) rfl (by kernel_rfl) (by kernel_rfl) (by kernel_rfl) (fun _ _ _ h => h) (Or.inl ⟨by rfl, ?y23a131⟩) hS4 ?r23a131
                case y23a131 => (intro w' hSw; go_simp; try rfl)
                try simp only [Act.put, List.setIfInBounds_toArray, List.set_cons_zero, List.set_cons_succ, HBQ.out, Bool.not_true, Bool.not_false]
                refine' wpAnyH_take (i := 24) (oi := ⟨some 6, _, _, _, _, _⟩) (v := _) rfl (by kernel_rfl) (by kernel_rfl) (by kernel_rfl) (fun _ _ _ h => h) (Or.inl ⟨by rfl, ?y24a134⟩) hS4 ?r24a134
                case y24a134 => (intro w' hSw; go_simp; try rfl)
                try simp only [Act.put, List.setIfInBounds_toArray, List.set_cons_zero, List.set_cons_succ, HBQ.out, Bool.not_true, Bool.not_false]
                refine wpAnyH_done (by kernel_rfl) ?_ _
                have HZ := Lib.hid hS4
                clear hS0 hS1 hS2 hS3 hS4 HSZ HGY3
                go_wp2
                go_ret
                exact ⟨rfl, HZ.out⟩
              · go_simp
                refine (kn_snap HLY1.out (by rw [HR.out.2.1]; have := HFACT.out.1 sn' (List.mem_cons_self ..); omega)).mono ?_
                rintro e Z2 ⟨v7, rfl, ho, hb⟩
                rw [HR.out.2.1] at ho
                have hsl7 : Sl Z2 v7 sn' := ho.sl
                obtain ⟨A7, n7, c7, rfl⟩ := hsl7.shape
                have HSL7 := Lib.hid hsl7
                have hS2 := hS1.trans (hb.mono hS1.size)
                have HSL62 := Lib.hid (HSL6.out.below hb)
                have HLA2 := Lib.hid (HLA1.out.below hb)
                have HGY2 := Lib.hid (HGY1.out.below hb)
                clear ho hb hsl7 HLA1 HLY1 HGY1
                refine hKa.out _ _ hS2 (fun _ => ?_)
                clear hKa Ka
                try simp only [Act.put, List.setIfInBounds_toArray, List.set_cons_zero, List.set_cons_succ, HBQ.out, Bool.not_true, Bool.not_false]
                refine held_two (i := 12) (j := 15) (by kernel_rfl) rfl rfl (fun Ka hKa => ?_) (fun Ka hKa => ?_)
                · have hcv := conv_w HSL62.out HSY.out
                  go_simp
                  refine hKa.out _ _ hS2 (fun _ => ?_)
                  clear hKa Ka
                  try simp only [Act.put, List.setIfInBounds_toArray, List.set_cons_zero, List.set_cons_succ, HBQ.out, Bool.not_true, Bool.not_false]
                  refine held_one (i := 15) (by kernel_rfl) rfl (fun Ka hKa => ?_)
                  have hcv := conv_w HSL7.out HSY.out
                  go_simp
                  refine hKa.out _ _ hS2 (fun _ => ?_)
                  clear hKa Ka
                  try simp only [Act.put, List.setIfInBounds_toArray, List.set_cons_zero, List.set_cons_succ, HBQ.out, Bool.not_true, Bool.not_false]
                  refine' wpAnyH_take (i := 16) (oi := ⟨some 171, _, _, _, _, _⟩) (v := _) rfl (by kernel_rfl) (by kernel_rfl) (by kernel_rfl) (fun _ _ _ h => h) (Or.inl ⟨by rfl, ?y16a170⟩) hS2 ?r16a170
                  case y16a170 => (intro w' hSw; go_simp; try rfl)
                  try simp only [Act.put, List.setIfInBounds_toArray, List.set_cons_zero, List.set_cons_succ, HBQ.out, Bool.not_true, Bool.not_false]
                  refine' wpAnyH_take (i := 17) (oi := ⟨some 172, _, _, _, _, _⟩) (v := _) rfl (by kernel_rfl) (by kernel_rfl) (by kernel_rfl) (fun _ _ _ h => h) (Or.inl ⟨by rfl, ?y17a173⟩) hS2 ?r17a173
                  case y17a173 => (intro w' hSw; go_simp; try rfl)
                  try simp only [Act.put, List.setIfInBounds_toArray, List.set_cons_zero, List.set_cons_succ, HBQ.out, Bool.not_true, Bool.not_false]
                  refine' wpAnyH_take (i := 18) (oi := ⟨some 173, _, _, _, _, _⟩) (v := _) rfl (by kernel_rfl) (by kernel_rfl) (by kernel_rfl) (fun _ _ _ h => h) (Or.inl ⟨by rfl, ?y18a176⟩) hS2 ?r18a176
                  case y18a176 => (intro w' hSw; go_simp; try rfl)
                  try simp only [Act.put, List.setIfInBounds_toArray, List.set_cons_zero, List.set_cons_succ, HBQ.out, Bool.not_true, Bool.not_false]
                  refine' wpAnyH_take (i := 19) (oi := ⟨some 174, _, _, _, _, _⟩) (v := _) rfl (by kernel_rfl) (by kernel_rfl) (by kernel_rfl) (fun _ _ _ h => h) (Or.inl ⟨by rfl, ?y19a179⟩) hS2 ?r19a179
                  case y19a179 => (intro w' hSw; go_simp; try rfl)
                  try simp only [Act.put, List.setIfInBounds_toArray, List.set_cons_zero, List.set_cons_succ, HBQ.out, Bool.not_true, Bool.not_false]
                  refine' wpAnyH_take (i := 21) (oi := ⟨some 176, _, _, _, _, _⟩) (v := _) rfl (by kernel_rfl) (by kernel_rfl) (by kernel_rfl) (fun _ _ _ h => h) (Or.inl ⟨by rfl, ?y21a182⟩) hS2 ?r21a182
                  case y21a182 => (intro w' hSw; go_simp; try rfl)
                  try simp only [Act.put, List.setIfInBounds_toArray, List.set_cons_zero, List.set_cons_succ, HBQ.out, Bool.not_true, Bool.not_false]
                  refine held_one (i := 20) (by kernel_rfl) rfl (fun Ka hKa => ?_)
                  go_simp
                  refine (kn_gather HLA2.out (by rw [HZR.out.2.2]; omega) (by rw [HZR.out.2.2]; intro l hl; have := HFACT.out.1 l (List.mem_cons_of_mem _ hl); omega)).mono ?_
                  rintro e Z3 ⟨vz, rfl, hsz, hb⟩
                  rw [HZR.out.2.2] at hsz
                  obtain ⟨Az, cz, ez, _⟩ := id hsz
                  subst ez
                  have HSZ := Lib.hid hsz
                  have hS3 := hS2.trans (hb.mono hS2.size)
                  have HGY3 := Lib.hid (HGY2.out.below hb)
                  clear hsz hb HLA2 HGY2
                  refine hKa.out _ _ hS3 (fun _ => ?_)
                  clear hKa Ka
                  try simp only [Act.put, List.setIfInBounds_toArray, List.set_cons_zero, List.set_cons_succ, HBQ.out, Bool.not_true, Bool.not_false]
                  refine held_one (i := 22) (by kernel_rfl) rfl (fun Ka hKa => ?_)
                  go_simp
                  refine (sameLists_any _ _ got got _ HSZ.out HGY3.out (by omega)).mono ?_
                  rintro e Z4 ⟨rfl, hb⟩
                  rw [decide_eq_true rfl]
                  have hS4 := hS3.trans (hb.mono hS3.size)
                  clear hb
                  refine hKa.out _ _ hS4 (fun _ => ?_)
                  clear hKa Ka
                  try simp only [Act.put, List.setIfInBounds_toArray, List.set_cons_zero, List.set_cons_succ, HBQ.out, Bool.not_true, Bool.not_false]
                  refine' wpAnyH_take (i := 23) (oi := ⟨some 178, _, _, _, _, _⟩) (v := _) rfl (by kernel_rfl) (by kernel_rfl) (by kernel_rfl) (fun _ _ _ h => h) (Or.inl ⟨by rfl, ?y23a209⟩) hS4 ?r23a209
                  case y23a209 => (intro w' hSw; go_simp; try rfl)
                  try simp only [Act.put, List.setIfInBounds_toArray, List.set_cons_zero, List.set_cons_succ, HBQ.out, Bool.not_true, Bool.not_false]
                  refine' wpAnyH_take (i := 24) (oi := ⟨some 6, _, _, _, _, _⟩) (v := _) rfl (by kernel_rfl) (by kernel_rfl) (by kernel_rfl) (fun _ _ _ h => h) (Or.inl ⟨by rfl, ?y24a212⟩) hS4 ?r24a212
                  case y24a212 => (intro w' hSw; go_simp; try rfl)
                  try simp only [Act.put, List.setIfInBounds_toArray, List.set_cons_zero, List.set_cons_succ, HBQ.out, Bool.not_true, Bool.not_false]
                  refine wpAnyH_done (by kernel_rfl) ?_ _
                  have HZ := Lib.hid hS4
                  clear hS0 hS1 hS2 hS3 hS4 HSZ HGY3
                  go_wp2
                  go_ret
                  exact ⟨rfl, HZ.out⟩
                · have hcv := conv_w HSL7.out HSY.out
                  go_simp
                  refine hKa.out _ _ hS2 (fun _ => ?_)
                  clear hKa Ka
                  try simp only [Act.put, List.setIfInBounds_toArray, List.set_cons_zero, List.set_cons_succ, HBQ.out, Bool.not_true, Bool.not_false]
                  refine held_one (i := 12) (by kernel_rfl) rfl (fun Ka hKa => ?_)
                  have hcv := conv_w HSL62.out HSY.out
                  go_simp
                  refine hKa.out _ _ hS2 (fun _ => ?_)
                  clear hKa Ka
                  try simp only [Act.put, List.setIfInBounds_toArray, List.set_cons_zero, List.set_cons_succ, HBQ.out, Bool.not_true, Bool.not_false]
                  refine' wpAnyH_take (i := 16) (oi := ⟨some 171, _, _, _, _, _⟩) (v := _) rfl (by kernel_rfl) (by kernel_rfl) (by kernel_rfl) (fun _ _ _ h => h) (Or.inl ⟨by rfl, ?y16a232⟩) hS2 ?r16a232
                  case y16a232 => (intro w' hSw; go_simp; try rfl)
                  try simp only [Act.put, List.setIfInBounds_toArray, List.set_cons_zero, List.set_cons_succ, HBQ.out, Bool.not_true, Bool.not_false]
                  refine' wpAnyH_take (i := 17) (oi := ⟨some 172, _, _, _, _, _⟩) (v := _) rfl (by kernel_rfl) (by kernel_rfl) (by kernel_rfl) (fun _ _ _ h => h) (Or.inl ⟨by rfl, ?y17a235⟩) hS2 ?r17a235
                  case y17a235 => (intro w' hSw; go_simp; try rfl)
                  try simp only [Act.put, List.setIfInBounds_toArray, List.set_cons_zero, List.set_cons_succ, HBQ.out, Bool.not_true, Bool.not_false]
                  refine' wpAnyH_take (i := 18) (oi := ⟨some 173, _, _, _, _, _⟩) (v := _) rfl (by kernel_rfl) (by kernel_rfl) (by kernel_rfl) (fun _ _ _ h => h) (Or.inl ⟨by rfl, ?y18a238⟩) hS2 ?r18a238
                  case y18a238 => (intro w' hSw; go_simp; try rfl)
                  try simp only [Act.put, List.setIfInBounds_toArray, List.set_cons_zero, List.set_cons_succ, HBQ.out, Bool.not_true, Bool.not_false]
                  refine' wpAnyH_take (i := 19) (oi := ⟨some 174, _, _, _, _, _⟩) (v := _) rfl (by kernel_rfl) (by kernel_rfl) (by kernel_rfl) (fun _ _ _ h => h) (Or.inl ⟨by rfl, ?y19a241⟩) hS2 ?r19a241
                  case y19a241 => (intro w' hSw; go_simp; try rfl)
                  try simp only [Act.put, List.setIfInBounds_toArray, List.set_cons_zero, List.set_cons_succ, HBQ.out, Bool.not_true, Bool.not_false]
                  refine' wpAnyH_take (i := 21) (oi := ⟨some 176, _, _, _, _, _⟩) (v := _) rfl (by kernel_rfl) (by kernel_rfl) (by kernel_rfl) (fun _ _ _ h => h) (Or.inl ⟨by rfl, ?y21a244⟩) hS2 ?r21a244
                  case y21a244 => (intro w' hSw; go_simp; try rfl)
                  try simp only [Act.put, List.setIfInBounds_toArray, List.set_cons_zero, List.set_cons_succ, HBQ.out, Bool.not_true, Bool.not_false]
                  refine held_one (i := 20) (by kernel_rfl) rfl (fun Ka hKa => ?_)
                  go_simp
                  refine (kn_gather HLA2.out (by rw [HZR.out.2.2]; omega) (by rw [HZR.out.2.2]; intro l hl; have := HFACT.out.1 l (List.mem_cons_of_mem _ hl); omega)).mono ?_
                  rintro e Z3 ⟨vz, rfl, hsz, hb⟩
                  rw [HZR.out.2.2] at hsz
                  obtain ⟨Az, cz, ez, _⟩ := id hsz
                  subst ez
                  have HSZ := Lib.hid hsz
                  have hS3 := hS2.trans (hb.mono hS2.size)
                  have HGY3 := Lib.hid (HGY2.out.below hb)
                  clear hsz hb HLA2 HGY2
                  refine hKa.out _ _ hS3 (fun _ => ?_)
                  clear hKa Ka
                  try simp only [Act.put, List.setIfInBounds_toArray, List.set_cons_zero, List.set_cons_succ, HBQ.out, Bool.not_true, Bool.not_false]
                  refine held_one (i := 22) (by kernel_rfl) rfl (fun Ka hKa => ?_)
                  go_simp
                  refine (sameLists_any _ _ got got _ HSZ.out HGY3.out (by omega)).mono ?_
                  rintro e Z4 ⟨rfl, hb⟩
                  rw [decide_eq_true rfl]
                  have hS4 := hS3.trans (hb.mono hS3.size)
                  clear hb
                  refine hKa.out _ _ hS4 (fun _ => ?_)
                  clear hKa Ka
                  try simp only [Act.put, List.setIfInBounds_toArray, List.set_cons_zero, List.set_cons_succ, HBQ.out, Bool.not_true, Bool.not_false]
                  refine' wpAnyH_take (i := 23) (oi := ⟨some 178, _, _, _, _, _⟩) (v := _) rfl (by kernel_rfl) (by kernel_rfl) (by kernel_rfl) (fun _ _ _ h => h) (Or.inl ⟨by rfl, ?y23a271⟩) hS4 ?r23a271
                  case y23a271 => (intro w' hSw; go_simp; try rfl)
                  try simp only [Act.put, List.setIfInBounds_toArray, List.set_cons_zero, List.set_cons_succ, HBQ.out, Bool.not_true, Bool.not_false]
                  refine' wpAnyH_take (i := 24) (oi := ⟨some 6, _, _, _, _, _⟩) (v := _) rfl (by kernel_rfl) (by kernel_rfl) (by kernel_rfl) (fun _ _ _ h => h) (Or.inl ⟨by rfl, ?y24a274⟩) hS4 ?r24a274
                  case y24a274 => (intro w' hSw; go_simp; try rfl)
                  try simp only [Act.put, List.setIfInBounds_toArray, List.set_cons_zero, List.set_cons_succ, HBQ.out, Bool.not_true, Bool.not_false]
                  refine wpAnyH_done (by kernel_rfl) ?_ _
                  have HZ := Lib.hid hS4
                  clear hS0 hS1 hS2 hS3 hS4 HSZ HGY3
                  go_wp2
                  go_ret
                  exact ⟨rfl, HZ.out⟩
            | false =>
              have hq2 := HQ2.out rfl
              subst hq2
              go_wp2_with fail
              have HBD := Lib.hid HB14.out.drew
              have HLA := Lib.hid (HL14.out.below ((Below.refl w14.heap.size w14).drew))
              have HLYA := Lib.hid (HLY.out.below ((Below.refl w14.heap.size w14).drew))
              have HGYA := Lib.hid (HGY.out.below ((Below.refl w14.heap.size w14).drew))
              refine wp_region_held_drew (S := fun X => Below w.heap.size w X) hfo HBD.out (fun hS0 => ?_)
              generalize w14.drew = Z0 at hS0 HLA HLYA HGYA ⊢
              clear HBD HL14 HLY HGY HB14
              refine' wpAnyH_take (i := 0) (oi := ⟨some 155, _, _, _, _, _⟩) (v := _) rfl (by kernel_rfl) (by kernel_rfl) (by kernel_rfl) (fun _ _ _ h => h) (Or.inl ⟨by rfl, ?y0b7⟩) hS0 ?r0b7
              case y0b7 => (intro w' hSw; go_simp; try rfl)
              try simp only [Act.put, List.setIfInBounds_toArray, List.set_cons_zero, List.set_cons_succ, HBQ.out, Bool.not_true, Bool.not_false]
              refine' wpAnyH_take (i := 1) (oi := ⟨some 156, _, _, _, _, _⟩) (v := _) rfl (by kernel_rfl) (by kernel_rfl) (by kernel_rfl) (fun _ _ _ h => h) (Or.inl ⟨by rfl, ?y1b10⟩) hS0 ?r1b10
              case y1b10 => (intro w' hSw; go_simp; try rfl)
              try simp only [Act.put, List.setIfInBounds_toArray, List.set_cons_zero, List.set_cons_succ, HBQ.out, Bool.not_true, Bool.not_false]
              refine' wpAnyH_take (i := 2) (oi := ⟨some 157, _, _, _, _, _⟩) (v := _) rfl (by kernel_rfl) (by kernel_rfl) (by kernel_rfl) (fun _ _ _ h => h) (Or.inl ⟨by rfl, ?y2b13⟩) hS0 ?r2b13
              case y2b13 => (intro w' hSw; go_simp; try rfl)
              try simp only [Act.put, List.setIfInBounds_toArray, List.set_cons_zero, List.set_cons_succ, HBQ.out, Bool.not_true, Bool.not_false]
              refine' wpAnyH_take (i := 3) (oi := ⟨some 158, _, _, _, _, _⟩) (v := _) rfl (by kernel_rfl) (by kernel_rfl) (by kernel_rfl) (fun _ _ _ h => h) (Or.inl ⟨by rfl, ?y3b16⟩) hS0 ?r3b16
              case y3b16 => (intro w' hSw; go_simp; try rfl)
              try simp only [Act.put, List.setIfInBounds_toArray, List.set_cons_zero, List.set_cons_succ, HBQ.out, Bool.not_true, Bool.not_false]
              refine' wpAnyH_take (i := 4) (oi := ⟨some 159, _, _, _, _, _⟩) (v := _) rfl (by kernel_rfl) (by kernel_rfl) (by kernel_rfl) (fun _ _ _ h => h) (Or.inl ⟨by rfl, ?y4b19⟩) hS0 ?r4b19
              case y4b19 => (intro w' hSw; go_simp; try rfl)
              try simp only [Act.put, List.setIfInBounds_toArray, List.set_cons_zero, List.set_cons_succ, HBQ.out, Bool.not_true, Bool.not_false]
              refine' wpAnyH_take (i := 5) (oi := ⟨some 160, _, _, _, _, _⟩) (v := _) rfl (by kernel_rfl) (by kernel_rfl) (by kernel_rfl) (fun _ _ _ h => h) (Or.inl ⟨by rfl, ?y5b22⟩) hS0 ?r5b22
              case y5b22 => (intro w' hSw; go_simp; try rfl)
              try simp only [Act.put, List.setIfInBounds_toArray, List.set_cons_zero, List.set_cons_succ, HBQ.out, Bool.not_true, Bool.not_false]
              refine held_one (i := 6) (by kernel_rfl) rfl (fun Kb hKb => ?_)
              go_simp
              refine (lnum_any 0 _).mono ?_
              rintro e wx ⟨rfl, hwx⟩
              rw [hwx]
              clear hwx wx
              refine hKb.out _ _ hS0 (fun _ => ?_)
              clear hKb Kb
              try simp only [Act.put, List.setIfInBounds_toArray, List.set_cons_zero, List.set_cons_succ, HBQ.out, Bool.not_true, Bool.not_false]
              refine' wpAnyH_take (i := 7) (oi := ⟨some 162, _, _, _, _, _⟩) (v := _) rfl (by kernel_rfl) (by kernel_rfl) (by kernel_rfl) (fun _ _ _ h => h) (Or.inl ⟨by rfl, ?y7b34⟩) hS0 ?r7b34
              case y7b34 => (intro w' hSw; go_simp; try rfl)
              try simp only [Act.put, List.setIfInBounds_toArray, List.set_cons_zero, List.set_cons_succ, HBQ.out, Bool.not_true, Bool.not_false]
              refine' wpAnyH_take (i := 8) (oi := ⟨some 163, _, _, _, _, _⟩) (v := _) rfl (by kernel_rfl) (by kernel_rfl) (by kernel_rfl) (fun _ _ _ h => h) (Or.inl ⟨by rfl, ?y8b37⟩) hS0 ?r8b37
              case y8b37 => (intro w' hSw; go_simp; try rfl)
              try simp only [Act.put, List.setIfInBounds_toArray, List.set_cons_zero, List.set_cons_succ, HBQ.out, Bool.not_true, Bool.not_false]
              refine' wpAnyH_take (i := 9) (oi := ⟨some 164, _, _, _, _, _⟩) (v := _) rfl (by kernel_rfl) (by kernel_rfl) (by kernel_rfl) (fun _ _ _ h => h) (Or.inl ⟨by rfl, ?y9b40⟩) hS0 ?r9b40
              case y9b40 => (intro w' hSw; go_simp; try rfl)
              try simp only [Act.put, List.setIfInBounds_toArray, List.set_cons_zero, List.set_cons_succ, HBQ.out, Bool.not_true, Bool.not_false]
              refine' wpAnyH_take (i := 10) (oi := ⟨some 165, _, _, _, _, _⟩) (v := _) rfl (by kernel_rfl) (by kernel_rfl) (by kernel_rfl) (fun _ _ _ h => h) (Or.inl ⟨by rfl, ?y10b43⟩) hS0 ?r10b43
              case y10b43 => (intro w' hSw; go_simp; try rfl)
              try simp only [Act.put, List.setIfInBounds_toArray, List.set_cons_zero, List.set_cons_succ, HBQ.out, Bool.not_true, Bool.not_false]
              refine' wpAnyH_take (i := 13) (oi := ⟨some 168, _, _, _, _, _⟩) (v := _) rfl (by kernel_rfl) (by kernel_rfl) (by kernel_rfl) (fun _ _ _ h => h) (Or.inl ⟨by rfl, ?y13b46⟩) hS0 ?r13b46
              case y13b46 => (intro w' hSw; go_simp; try rfl)
              try simp only [Act.put, List.setIfInBounds_toArray, List.set_cons_zero, List.set_cons_succ, HBQ.out, Bool.not_true, Bool.not_false]
              refine held_one (i := 11) (by kernel_rfl) rfl (fun Kb hKb => ?_)
              go_simp
              refine (kn_snap HLA.out (by rw [HZR.out.2.1]; have := HFACT.out.1 sn' (List.mem_cons_self ..); omega)).mono ?_
              rintro e Z1 ⟨v6, rfl, ho, hb⟩
              rw [HZR.out.2.1] at ho
              have hsl6 : Sl Z1 v6 sn' := ho.sl
              obtain ⟨A6, n6, c6, rfl⟩ := hsl6.shape
              have HSL6 := Lib.hid hsl6
              have hS1 := hS0.trans (hb.mono hS0.size)
              have HLA1 := Lib.hid (HLA.out.below hb)
              have HLY1 := Lib.hid (HLYA.out.below hb)
              have HGY1 := Lib.hid (HGYA.out.below hb)
              clear ho hb hsl6 HLA HLYA HGYA
              refine hKb.out _ _ hS1 (fun _ => ?_)
              clear hKb Kb
              try simp only [Act.put, List.setIfInBounds_toArray, List.set_cons_zero, List.set_cons_succ, HBQ.out, Bool.not_true, Bool.not_false]
              refine held_two (i := 12) (j := 14) (by kernel_rfl) rfl rfl (fun Kb hKb => ?_) (fun Kb hKb => ?_)
              · have hcv := conv_w HSL6.out HSY.out
                go_simp
                refine hKb.out _ _ hS1 (fun _ => ?_)
                clear hKb Kb
                try simp only [Act.put, List.setIfInBounds_toArray, List.set_cons_zero, List.set_cons_succ, HBQ.out, Bool.not_true, Bool.not_false]
                refine held_one (i := 14) (by kernel_rfl) rfl (fun Kb hKb => ?_)
                go_simp
                refine (kn_snap HLY1.out (by rw [HR.out.2.1]; have := HFACT.out.1 sn' (List.mem_cons_self ..); omega)).mono ?_
                rintro e Z2 ⟨v7, rfl, ho, hb⟩
                rw [HR.out.2.1] at ho
                have hsl7 : Sl Z2 v7 sn' := ho.sl
                obtain ⟨A7, n7, c7, rfl⟩ := hsl7.shape
                have HSL7 := Lib.hid hsl7
                have hS2 := hS1.trans (hb.mono hS1.size)
                have HSL62 := Lib.hid (HSL6.out.below hb)
                have HLA2 := Lib.hid (HLA1.out.below hb)
                have HGY2 := Lib.hid (HGY1.out.below hb)
                clear ho hb hsl7 HLA1 HLY1 HGY1
                refine hKb.out _ _ hS2 (fun _ => ?_)
                clear hKb Kb
                try simp only [Act.put, List.setIfInBounds_toArray, List.set_cons_zero, List.set_cons_succ, HBQ.out, Bool.not_true, Bool.not_false]
                refine held_one (i := 15) (by kernel_rfl) rfl (fun Kb hKb => ?_)
                have hcv := conv_w HSL7.out HSY.out
                go_simp
                refine hKb.out _ _ hS2 (fun _ => ?_)
                clear hKb Kb
                try simp only [Act.put, List.setIfInBounds_toArray, List.set_cons_zero, List.set_cons_succ, HBQ.out, Bool.not_true, Bool.not_false]
                refine' wpAnyH_take (i := 16) (oi := ⟨some 171, _, _, _, _, _⟩) (v := _) rfl (by kernel_rfl) (by kernel_rfl) (by kernel_rfl) (fun _ _ _ h => h) (Or.inl ⟨by rfl, ?y16b93⟩) hS2 ?r16b93
                case y16b93 => (intro w' hSw; go_simp; try rfl)
                try simp only [Act.put, List.setIfInBounds_toArray, List.set_cons_zero, List.set_cons_succ, HBQ.out, Bool.not_true, Bool.not_false]
                refine' wpAnyH_take (i := 17) (oi := ⟨some 172, _, _, _, _, _⟩) (v := _) rfl (by kernel_rfl) (by kernel_rfl) (by kernel_rfl) (fun _ _ _ h => h) (Or.inl ⟨by rfl, ?y17b96⟩) hS2 ?r17b96
                case y17b96 => (intro w' hSw; go_simp; try rfl)
                try simp only [Act.put, List.setIfInBounds_toArray, List.set_cons_zero, List.set_cons_succ, HBQ.out, Bool.not_true, Bool.not_false]
                refine' wpAnyH_take (i := 18) (oi := ⟨some 173, _, _, _, _, _⟩) (v := _) rfl (by kernel_rfl) (by kernel_rfl) (by kernel_rfl) (fun _ _ _ h => h) (Or.inl ⟨by rfl, ?y18b99⟩) hS2 ?r18b99
                case y18b99 => (intro w' hSw; go_simp; try rfl)
                try simp only [Act.put, List.setIfInBounds_toArray, List.set_cons_zero, List.set_cons_succ, HBQ.out, Bool.not_true, Bool.not_false]
                refine' wpAnyH_take (i := 19) (oi := ⟨some 174, _, _, _, _, _⟩) (v := _) rfl (by kernel_rfl) (by kernel_rfl) (by kernel_rfl) (fun _ _ _ h => h) (Or.inl ⟨by rfl, ?y19b102⟩) hS2 ?r19b102
                case y19b102 => (intro w' hSw; go_simp; try rfl)
                try simp only [Act.put, List.setIfInBounds_toArray, List.set_cons_zero, List.set_cons_succ, HBQ.out, Bool.not_true, Bool.not_false]
                refine' wpAnyH_take (i := 21) (oi := ⟨some 176, _, _, _, _, _⟩) (v := _) rfl (by kernel_rfl) (by kernel_rfl) (by kernel_rfl) (fun _ _ _ h => h) (Or.inl ⟨by rfl, ?y21b105⟩) hS2 ?r21b105
                case y21b105 => (intro w' hSw; go_simp; try rfl)
                try simp only [Act.put, List.setIfInBounds_toArray, List.set_cons_zero, List.set_cons_succ, HBQ.out, Bool.not_true, Bool.not_false]
                refine held_one (i := 20) (by kernel_rfl) rfl (fun Kb hKb => ?_)
                go_simp
                refine (kn_gather HLA2.out (by rw [HZR.out.2.2]; omega) (by rw [HZR.out.2.2]; intro l hl; have := HFACT.out.1 l (List.mem_cons_of_mem _ hl); omega)).mono ?_
                rintro e Z3 ⟨vz, rfl, hsz, hb⟩
                rw [HZR.out.2.2] at hsz
                obtain ⟨Az, cz, ez, _⟩ := id hsz
                subst ez
                have HSZ := Lib.hid hsz
                have hS3 := hS2.trans (hb.mono hS2.size)
                have HGY3 := Lib.hid (HGY2.out.below hb)
                clear hsz hb HLA2 HGY2
                refine hKb.out _ _ hS3 (fun _ => ?_)
                clear hKb Kb
                try simp only [Act.put, List.setIfInBounds_toArray, List.set_cons_zero, List.set_cons_succ, HBQ.out, Bool.not_true, Bool.not_false]
                refine held_one (i := 22) (by kernel_rfl) rfl (fun Kb hKb => ?_)
                go_simp
                refine (sameLists_any _ _ got got _ HSZ.out HGY3.out (by omega)).mono ?_
                rintro e Z4 ⟨rfl, hb⟩
                rw [decide_eq_true rfl]
                have hS4 := hS3.trans (hb.mono hS3.size)
                clear hb
                refine hKb.out _ _ hS4 (fun _ => ?_)
                clear hKb Kb
                try simp only [Act.put, List.setIfInBounds_toArray, List.set_cons_zero, List.set_cons_succ, HBQ.out, Bool.not_true, Bool.not_false]
                refine' wpAnyH_take (i := 23) (oi := ⟨some 178, _, _, _, _, _⟩) (v := _) rfl (by kernel_rfl) (by kernel_rfl) (by kernel_rfl) (fun _ _ _ h => h) (Or.inl ⟨by rfl, ?y23b132⟩) hS4 ?r23b132
                case y23b132 => (intro w' hSw; go_simp; try rfl)
                try simp only [Act.put, List.setIfInBounds_toArray, List.set_cons_zero, List.set_cons_succ, HBQ.out, Bool.not_true, Bool.not_false]
                refine' wpAnyH_take (i := 24) (oi := ⟨some 6, _, _, _, _, _⟩) (v := _) rfl (by kernel_rfl) (by kernel_rfl) (by kernel_rfl) (fun _ _ _ h => h) (Or.inl ⟨by rfl, ?y24b135⟩) hS4 ?r24b135
                case y24b135 => (intro w' hSw; go_simp; try rfl)
                try simp only [Act.put, List.setIfInBounds_toArray, List.set_cons_zero, List.set_cons_succ, HBQ.out, Bool.not_true, Bool.not_false]
                refine wpAnyH_done (by kernel_rfl) ?_ _
                have HZ := Lib.hid hS4
                clear hS0 hS1 hS2 hS3 hS4 HSZ HGY3
                go_wp2
                go_ret
                exact ⟨rfl, HZ.out⟩
              · go_simp
                refine (kn_snap HLY1.out (by rw [HR.out.2.1]; have := HFACT.out.1 sn' (List.mem_cons_self ..); omega)).mono ?_
                rintro e Z2 ⟨v7, rfl, ho, hb⟩
                rw [HR.out.2.1] at ho
                have hsl7 : Sl Z2 v7 sn' := ho.sl
                obtain ⟨A7, n7, c7, rfl⟩ := hsl7.shape
                have HSL7 := Lib.hid hsl7
                have hS2 := hS1.trans (hb.mono hS1.size)
                have HSL62 := Lib.hid (HSL6.out.below hb)
                have HLA2 := Lib.hid (HLA1.out.below hb)
                have HGY2 := Lib.hid (HGY1.out.below hb)
                clear ho hb hsl7 HLA1 HLY1 HGY1
                refine hKb.out _ _ hS2 (fun _ => ?_)
                clear hKb Kb
                try simp only [Act.put, List.setIfInBounds_toArray, List.set_cons_zero, List.set_cons_succ, HBQ.out, Bool.not_true, Bool.not_false]
                refine held_two (i := 12) (j := 15) (by kernel_rfl) rfl rfl (fun Kb hKb => ?_) (fun Kb hKb => ?_)
                · have hcv := conv_w HSL62.out HSY.out
                  go_simp
                  refine hKb.out _ _ hS2 (fun _ => ?_)
                  clear hKb Kb
                  try simp only [Act.put, List.setIfInBounds_toArray, List.set_cons_zero, List.set_cons_succ, HBQ.out, Bool.not_true, Bool.not_false]
                  refine held_one (i := 15) (by kernel_rfl) rfl (fun Kb hKb => ?_)
                  have hcv := conv_w HSL7.out HSY.out
                  go_simp
                  refine hKb.out _ _ hS2 (fun _ => ?_)
                  clear hKb Kb
                  try simp only [Act.put, List.setIfInBounds_toArray, List.set_cons_zero, List.set_cons_succ, HBQ.out, Bool.not_true, Bool.not_false]
                  refine' wpAnyH_take (i := 16) (oi := ⟨some 171, _, _, _, _, _⟩) (v := _) rfl (by kernel_rfl) (by kernel_rfl) (by kernel_rfl) (fun _ _ _ h => h) (Or.inl ⟨by rfl, ?y16b171⟩) hS2 ?r16b171
                  case y16b171 => (intro w' hSw; go_simp; try rfl)
                  try simp only [Act.put, List.setIfInBounds_toArray, List.set_cons_zero, List.set_cons_succ, HBQ.out, Bool.not_true, Bool.not_false]
                  refine' wpAnyH_take (i := 17) (oi := ⟨some 172, _, _, _, _, _⟩) (v := _) rfl (by kernel_rfl) (by kernel_rfl) (by kernel_rfl) (fun _ _ _ h => h) (Or.inl ⟨by rfl, ?y17b174⟩) hS2 ?r17b174
                  case y17b174 => (intro w' hSw; go_simp; try rfl)
                  try simp only [Act.put, List.setIfInBounds_toArray, List.set_cons_zero, List.set_cons_succ, HBQ.out, Bool.not_true, Bool.not_false]
                  refine' wpAnyH_take (i := 18) (oi := ⟨some 173, _, _, _, _, _⟩) (v := _) rfl (by kernel_rfl) (by kernel_rfl) (by kernel_rfl) (fun _ _ _ h => h) (Or.inl ⟨by rfl, ?y18b177⟩) hS2 ?r18b177
                  case y18b177 => (intro w' hSw; go_simp; try rfl)
                  try simp only [Act.put, List.setIfInBounds_toArray, List.set_cons_zero, List.set_cons_succ, HBQ.out, Bool.not_true, Bool.not_false]
                  refine' wpAnyH_take (i := 19) (oi := ⟨some 174, _, _, _, _, _⟩) (v := _) rfl (by kernel_rfl) (by kernel_rfl) (by kernel_rfl) (fun _ _ _ h => h) (Or.inl ⟨by rfl, ?y19b180⟩) hS2 ?r19b180
                  case y19b180 => (intro w' hSw; go_simp; try rfl)
                  try simp only [Act.put, List.setIfInBounds_toArray, List.set_cons_zero, List.set_cons_succ, HBQ.out, Bool.not_true, Bool.not_false]
                  refine' wpAnyH_take (i := 21) (oi := ⟨some 176, _, _, _, _, _⟩) (v := _) rfl (by kernel_rfl) (by kernel_rfl) (by kernel_rfl) (fun _ _ _ h => h) (Or.inl ⟨by rfl, ?y21b183⟩) hS2 ?r21b183
                  case y21b183 => (intro w' hSw; go_simp; try rfl)
                  try simp only [Act.put, List.setIfInBounds_toArray, List.set_cons_zero, List.set_cons_succ, HBQ.out, Bool.not_true, Bool.not_false]
                  refine held_one (i := 20) (by kernel_rfl) rfl (fun Kb hKb => ?_)
                  go_simp
                  refine (kn_gather HLA2.out (by rw [HZR.out.2.2]; omega) (by rw [HZR.out.2.2]; intro l hl; have := HFACT.out.1 l (List.mem_cons_of_mem _ hl); omega)).mono ?_
                  rintro e Z3 ⟨vz, rfl, hsz, hb⟩
                  rw [HZR.out.2.2] at hsz
                  obtain ⟨Az, cz, ez, _⟩ := id hsz
                  subst ez
                  have HSZ := Lib.hid hsz
                  have hS3 := hS2.trans (hb.mono hS2.size)
                  have HGY3 := Lib.hid (HGY2.out.below hb)
                  clear hsz hb HLA2 HGY2
                  refine hKb.out _ _ hS3 (fun _ => ?_)
                  clear hKb Kb
                  try simp only [Act.put, List.setIfInBounds_toArray, List.set_cons_zero, List.set_cons_succ, HBQ.out, Bool.not_true, Bool.not_false]
                  refine held_one (i := 22) (by kernel_rfl) rfl (fun Kb hKb => ?_)
                  go_simp
                  refine (sameLists_any _ _ got got _ HSZ.out HGY3.out (by omega)).mono ?_
                  rintro e Z4 ⟨rfl, hb⟩
                  rw [decide_eq_true rfl]
                  have hS4 := hS3.trans (hb.mono hS3.size)
                  clear hb
                  refine hKb.out _ _ hS4 (fun _ => ?_)
                  clear hKb Kb
                  try simp only [Act.put, List.setIfInBounds_toArray, List.set_cons_zero, List.set_cons_succ, HBQ.out, Bool.not_true, Bool.not_false]
                  refine' wpAnyH_take (i := 23) (oi := ⟨some 178, _, _, _, _, _⟩) (v := _) rfl (by kernel_rfl) (by kernel_rfl) (by kernel_rfl) (fun _ _ _ h => h) (Or.inl ⟨by rfl, ?y23b210⟩) hS4 ?r23b210
                  case y23b210 => (intro w' hSw; go_simp; try rfl)
                  try simp only [Act.put, List.setIfInBounds_toArray, List.set_cons_zero, List.set_cons_succ, HBQ.out, Bool.not_true, Bool.not_false]
                  refine' wpAnyH_take (i := 24) (oi := ⟨some 6, _, _, _, _, _⟩) (v := _) rfl (by kernel_rfl) (by kernel_rfl) (by kernel_rfl) (fun _ _ _ h => h) (Or.inl ⟨by rfl, ?y24b213⟩) hS4 ?r24b213
                  case y24b213 => (intro w' hSw; go_simp; try rfl)
                  try simp only [Act.put, List.setIfInBounds_toArray, List.set_cons_zero, List.set_cons_succ, HBQ.out, Bool.not_true, Bool.not_false]
                  refine wpAnyH_done (by kernel_rfl) ?_ _
                  have HZ := Lib.hid hS4
                  clear hS0 hS1 hS2 hS3 hS4 HSZ HGY3
                  go_wp2
                  go_ret
                  exact ⟨rfl, HZ.out⟩
                · have hcv := conv_w HSL7.out HSY.out
                  go_simp
                  refine hKb.out _ _ hS2 (fun _ => ?_)
                  clear hKb Kb
                  try simp only [Act.put, List.setIfInBounds_toArray, List.set_cons_zero, List.set_cons_succ, HBQ.out, Bool.not_true, Bool.not_false]
                  refine held_one (i := 12) (by kernel_rfl) rfl (fun Kb hKb => ?_)
                  have hcv := conv_w HSL62.out HSY.out
                  go_simp
                  refine hKb.out _ _ hS2 (fun _ => ?_)
                  clear hKb Kb
                  try simp only [Act.put, List.setIfInBounds_toArray, List.set_cons_zero, List.set_cons_succ, HBQ.out, Bool.not_true, Bool.not_false]
                  refine' wpAnyH_take (i := 16) (oi := ⟨some 171, _, _, _, _, _⟩) (v := _) rfl (by kernel_rfl) (by kernel_rfl) (by kernel_rfl) (fun _ _ _ h => h) (Or.inl ⟨by rfl, ?y16b233⟩) hS2 ?r16b233
                  case y16b233 => (intro w' hSw; go_simp; try rfl)
                  try simp only [Act.put, List.setIfInBounds_toArray, List.set_cons_zero, List.set_cons_succ, HBQ.out, Bool.not_true, Bool.not_false]
                  refine' wpAnyH_take (i := 17) (oi := ⟨some 172, _, _, _, _, _⟩) (v := _) rfl (by kernel_rfl) (by kernel_rfl) (by kernel_rfl) (fun _ _ _ h => h) (Or.inl ⟨by rfl, ?y17b236⟩) hS2 ?r17b236
                  case y17b236 => (intro w' hSw; go_simp; try rfl)
                  try simp only [Act.put, List.setIfInBounds_toArray, List.set_cons_zero, List.set_cons_succ, HBQ.out, Bool.not_true, Bool.not_false]
                  refine' wpAnyH_take (i := 18) (oi := ⟨some 173, _, _, _, _, _⟩) (v := _) rfl (by kernel_rfl) (by kernel_rfl) (by kernel_rfl) (fun _ _ _ h => h) (Or.inl ⟨by rfl, ?y18b239⟩) hS2 ?r18b239
                  case y18b239 => (intro w' hSw; go_simp; try rfl)
                  try simp only [Act.put, List.setIfInBounds_toArray, List.set_cons_zero, List.set_cons_succ, HBQ.out, Bool.not_true, Bool.not_false]
                  refine' wpAnyH_take (i := 19) (oi := ⟨some 174, _, _, _, _, _⟩) (v := _) rfl (by kernel_rfl) (by kernel_rfl) (by kernel_rfl) (fun _ _ _ h => h) (Or.inl ⟨by rfl, ?y19b242⟩) hS2 ?r19b242
                  case y19b242 => (intro w' hSw; go_simp; try rfl)
                  try simp only [Act.put, List.setIfInBounds_toArray, List.set_cons_zero, List.set_cons_succ, HBQ.out, Bool.not_true, Bool.not_false]
                  refine' wpAnyH_take (i := 21) (oi := ⟨some 176, _, _, _, _, _⟩) (v := _) rfl (by kernel_rfl) (by kernel_rfl) (by kernel_rfl) (fun _ _ _ h => h) (Or.inl ⟨by rfl, ?y21b245⟩) hS2 ?r21b245
                  case y21b245 => (intro w' hSw; go_simp; try rfl)
                  try simp only [Act.put, List.setIfInBounds_toArray, List.set_cons_zero, List.set_cons_succ, HBQ.out, Bool.not_true, Bool.not_false]
                  refine held_one (i := 20) (by kernel_rfl) rfl (fun Kb hKb => ?_)
                  go_simp
                  refine (kn_gather HLA2.out (by rw [HZR.out.2.2]; omega) (by rw [HZR.out.2.2]; intro l hl; have := HFACT.out.1 l (List.mem_cons_of_mem _ hl); omega)).mono ?_
                  rintro e Z3 ⟨vz, rfl, hsz, hb⟩
                  rw [HZR.out.2.2] at hsz
                  obtain ⟨Az, cz, ez, _⟩ := id hsz
                  subst ez
                  have HSZ := Lib.hid hsz
                  have hS3 := hS2.trans (hb.mono hS2.size)
                  have HGY3 := Lib.hid (HGY2.out.below hb)
                  clear hsz hb HLA2 HGY2
                  refine hKb.out _ _ hS3 (fun _ => ?_)
                  clear hKb Kb
                  try simp only [Act.put, List.setIfInBounds_toArray, List.set_cons_zero, List.set_cons_succ, HBQ.out, Bool.not_true, Bool.not_false]
                  refine held_one (i := 22) (by kernel_rfl) rfl (fun Kb hKb => ?_)
                  go_simp
                  refine (sameLists_any _ _ got got _ HSZ.out HGY3.out (by omega)).mono ?_
                  rintro e Z4 ⟨rfl, hb⟩
                  rw [decide_eq_true rfl]
                  have hS4 := hS3.trans (hb.mono hS3.size)
                  clear hb
                  refine hKb.out _ _ hS4 (fun _ => ?_)
                  clear hKb Kb
                  try simp only [Act.put, List.setIfInBounds_toArray, List.set_cons_zero, List.set_cons_succ, HBQ.out, Bool.not_true, Bool.not_false]
                  refine' wpAnyH_take (i := 23) (oi := ⟨some 178, _, _, _, _, _⟩) (v := _) rfl (by kernel_rfl) (by kernel_rfl) (by kernel_rfl) (fun _ _ _ h => h) (Or.inl ⟨by rfl, ?y23b272⟩) hS4 ?r23b272
                  case y23b272 => (intro w' hSw; go_simp; try rfl)
                  try simp only [Act.put, List.setIfInBounds_toArray, List.set_cons_zero, List.set_cons_succ, HBQ.out, Bool.not_true, Bool.not_false]
                  refine' wpAnyH_take (i := 24) (oi := ⟨some 6, _, _, _, _, _⟩) (v := _) rfl (by kernel_rfl) (by kernel_rfl) (by kernel_rfl) (fun _ _ _ h => h) (Or.inl ⟨by rfl, ?y24b275⟩) hS4 ?r24b275
                  case y24b275 => (intro w' hSw; go_simp; try rfl)
                  try simp only [Act.put, List.setIfInBounds_toArray, List.set_cons_zero, List.set_cons_succ, HBQ.out, Bool.not_true, Bool.not_false]
                  refine wpAnyH_done (by kernel_rfl) ?_ _
                  have HZ := Lib.hid hS4
                  clear hS0 hS1 hS2 hS3 hS4 HSZ HGY3
                  go_wp2
                  go_ret
                  exact ⟨rfl, HZ.out⟩
end Go.Proofs.YtibifnknkphanaaGreatDoor

/-
  OrsetOrder: its walk.
-/
import Derived.Test.YtldfaaahmpncbaaGreatOrtR
namespace Go.Proofs.YtldfaaahmpncbaaGreat
open Go.RowKit Go.Maps
open CtxM
set_option linter.unusedVariables false
set_option linter.unusedSimpArgs false
set_option maxRecDepth 20000
/-- Whole numbers. -/
def kInt : Kd Int where
  ty := 3
  sz := 1
  by_ := 8
  zero := .int .i64 0
  en n := [.int .i64 n]
  len _ := rfl
  one i u hu := by simp at hu; subst hu; rfl
  pos := by decide
  zs := rfl
/-- These two may both be seen. -/
def okP (x y : It) : Prop := ¬ (x.d = y.d ∧ x.g = false ∧ y.g = false ∧ (x.t, x.v) ≠ (y.t, y.v))
theorem one_of {l : List It} (h : ∀ j (hj : j < l.length), ∀ k (hk : k < j), okP l[k] l[j]) : One l := by
  intro x hx y hy e hx2 hy2
  obtain ⟨i, hi, rfl⟩ := List.getElem_of_mem hx
  obtain ⟨j, hj, rfl⟩ := List.getElem_of_mem hy
  have fin : ∀ a b : It, okP a b → a.d = b.d → a.g = false → b.g = false → a = b := fun a b h e h1 h2 => by
    have hk : (a.t, a.v) = (b.t, b.v) := by
      by_cases hk : (a.t, a.v) = (b.t, b.v)
      · exact hk
      · exact absurd ⟨e, h1, h2, hk⟩ h
    injection hk with h3 h4
    exact (it_ext_iff a b).2 ⟨e, ⟨h3, h4⟩, h1.trans h2.symm⟩
  rcases Nat.lt_trichotomy i j with h1 | h1 | h1
  · exact fin _ _ (h j hj i h1) e hx2 hy2
  · subst h1; rfl
  · exact (fin _ _ (h i hi j h1) e.symm hy2 hx2).symm
set_option maxHeartbeats 8000000 in
theorem order_any (v0 v1 v2 : Value) (l : List It) (o : List Int) (cl : List Dt) (w : World) (h0 : SlK kIt w v0 l) (h1 : SlK kInt w v1 o) (h2 : Sd w v2 cl) :
    Calls Tryz.prog 5 #[v0, v1, v2] w fun e w' => e = .returned (.bool true) ∧ Below w.heap.size w w' := by
  have hfo : Tryz.prog.follows .mixedOrders = true := by kernel_rfl
  have H0 := Lib.hid h0
  have H1 := Lib.hid h1
  have H2 := Lib.hid h2
  obtain ⟨A0, c0, rfl⟩ := h0.shape
  obtain ⟨A1, c1, rfl⟩ := h1.shape
  obtain ⟨A2, n2, c2, rfl⟩ := h2.shape
  obtain rfl := h2.len
  clear h0 h1 h2
  have HBW := Lib.hid (Below.refl w.heap.size w)
  by_cases hs0 : 100 < l.length
  · have k0 : decide ((100 : Int) < (l.length : Int)) = true := decide_eq_true (by omega)
    go_enter Tryz.func5, Tryz.ntmps5
    go_wp2_with fail
    refine (oknown_any _).mono ?_
    rintro e w' ⟨rfl, hbk⟩
    go_wp2
    go_ret
    exact ⟨rfl, HBW.out.trans (hbk.mono HBW.out.size)⟩
  have k0 : decide ((100 : Int) < (l.length : Int)) = false := decide_eq_false (by omega)
  by_cases hs1 : 300 < o.length
  · have k1 : decide ((300 : Int) < (o.length : Int)) = true := decide_eq_true (by omega)
    go_enter Tryz.func5, Tryz.ntmps5
    go_wp2_with fail
    refine (oknown_any _).mono ?_
    rintro e w' ⟨rfl, hbk⟩
    go_wp2
    go_ret
    exact ⟨rfl, HBW.out.trans (hbk.mono HBW.out.size)⟩
  have k1 : decide ((300 : Int) < (o.length : Int)) = false := decide_eq_false (by omega)
  by_cases hs2 : 100 < cl.length
  · have k2 : decide ((100 : Int) < (cl.length : Int)) = true := decide_eq_true (by omega)
    go_enter Tryz.func5, Tryz.ntmps5
    go_wp2_with fail
    refine (oknown_any _).mono ?_
    rintro e w' ⟨rfl, hbk⟩
    go_wp2
    go_ret
    exact ⟨rfl, HBW.out.trans (hbk.mono HBW.out.size)⟩
  have k2 : decide ((100 : Int) < (cl.length : Int)) = false := decide_eq_false (by omega)
  go_enter Tryz.func5, Tryz.ntmps5
  go_wp2_with fail
  clear k0 k1 k2
  go_loopw [7] (fun z wr => ∃ i : Nat, z = .int .i64 (i : Int) ∧ i ≤ l.length ∧ (∀ j (hj : j < l.length), j < i → itB l[j] = true ∧ ∀ k (hk : k < j), okP l[k] l[j]) ∧ Below w.heap.size w wr) (fun z _ => l.length - (intOf z).toNat)
  case atStart => exact ⟨0, rfl, Nat.zero_le _, fun j hj h => absurd h (by omega), Below.refl _ _⟩
  case round =>
    obtain ⟨i, rfl, hi, hall, hb⟩ := hrel
    have HALL := Lib.hid hall
    clear hall
    by_cases hlt : i < l.length
    · have hlti : (i : Int) < (l.length : Int) := by omega
      obtain ⟨x, hx⟩ : ∃ x, l[i] = x := ⟨_, rfl⟩
      obtain ⟨b, off, e0, r0, r1, r2, r3, r4⟩ := (H0.out.below hb).item i hlt x hx
      subst e0
      have HX := Lib.hid hx
      have HLT := Lib.hid hlt
      have HM := Lib.hid (ritem_any x wr)
      clear hx
      go_wp2_with fail
      refine HM.out.mono ?_
      rintro e w3 ⟨rfl, hg3⟩
      have hb3 := hb.trans (hg3.below.mono hb.size)
      have HB3 := Lib.hid hb3
      clear HM hg3 hb r0 r1 r2 r3 r4
      cases hib : itB x
      · have HBW := HB3
        go_wp2_with fail
        refine (oknown_any _).mono ?_
        rintro e w' ⟨rfl, hbk⟩
        go_wp2
        go_ret
        exact ⟨rfl, HBW.out.trans (hbk.mono HBW.out.size)⟩
      have HIB := Lib.hid hib
      clear hib
      go_wp2_with fail
      go_loopw [8] (fun z wq => ∃ k : Nat, z = .int .i64 (k : Int) ∧ k ≤ i ∧ (∀ j (hj : j < l.length), j < k → okP l[j] x) ∧ Below w.heap.size w wq) (fun z _ => i - (intOf z).toNat)
      case atStart => exact ⟨0, rfl, Nat.zero_le _, fun j hj h => absurd h (by omega), HB3.out⟩
      case round =>
        obtain ⟨k, rfl, hk, hall2, hbq⟩ := hrel
        have HALL2 := Lib.hid hall2
        clear hall2
        by_cases hlk : k < i
        · have hlki : (k : Int) < (i : Int) := by omega
          have hkl : (k : Int) < (l.length : Int) := by omega
          obtain ⟨y, hy⟩ : ∃ y, l[k]'(by omega) = y := ⟨_, rfl⟩
          obtain ⟨b1, o1, e1, s0, s1, s2, s3, s4⟩ := (H0.out.below hbq).item k (by omega) y hy
          injection e1 with e1
          injection e1 with e1 e2
          subst e1; subst e2
          obtain ⟨b1, o1, e1, r0, r1, r2, r3, r4⟩ := (H0.out.below hbq).item i HLT.out x HX.out
          injection e1 with e1
          injection e1 with e1 e2
          subst e1; subst e2
          have HY := Lib.hid hy
          have HLK := Lib.hid hlk
          have HBW := Lib.hid hbq
          clear hy hlk
          obtain ⟨q1, hq1⟩ : ∃ q, decide (y.d = x.d) = q := ⟨_, rfl⟩
          obtain ⟨q2, hq2⟩ : ∃ q, decide (y.t = x.t ∧ y.v = x.v) = q := ⟨_, rfl⟩
          have hde := fun W => dot_eq y.d x.d W
          have hke := fun W => key_eq y.t y.v x.t x.v W
          rw [hq1] at hde
          rw [hq2] at hke
          obtain ⟨gy, hgy⟩ : ∃ g, y.g = g := ⟨_, rfl⟩
          obtain ⟨gx, hgx⟩ : ∃ g, x.g = g := ⟨_, rfl⟩
          rw [hgy] at s4
          rw [hgx] at r4
          have HQ := Lib.hid (And.intro hq1 (And.intro hq2 (And.intro hgy hgx)))
          clear hq1 hq2 hgy hgx
          have HSTEP := Lib.hid (show (q1 = false ∨ gy = true ∨ gx = true ∨ q2 = true) → ∀ j (hj : j < l.length), j < k + 1 → okP l[j] x from fun h j hj hjk => by
            rcases Nat.lt_or_ge j k with h3 | h3
            · exact HALL2.out j hj h3
            · obtain rfl : j = k := by omega
              rw [HY.out]
              obtain ⟨a1, a2, a3, a4⟩ := HQ.out
              rintro ⟨b1, b2, b3, b4⟩
              rcases h with h | h | h | h
              · rw [h] at a1; exact of_decide_eq_false a1 b1
              · rw [h, b2] at a3; cases a3
              · rw [h, b3] at a4; cases a4
              · rw [h] at a2
                have := of_decide_eq_true a2
                exact b4 (by rw [this.1, this.2]))
          cases q1
          · go_wp2_with fail
            go_quiet (fail)
            go_wp2
            exact ⟨⟨k + 1, by go_num, HLK.out, HSTEP.out (by simp), below_drewN HBW.out _⟩, by have := HLK.out; simp [intOf]; omega⟩
          · cases gy
            · cases gx
              · cases q2
                · go_wp2_with fail
                  go_quiet (fail)
                  go_wp2_with fail
                  refine (oknown_any _).mono ?_
                  rintro e w' ⟨rfl, hbk⟩
                  have hbd := below_drewN HBW.out nq
                  go_wp2
                  go_ret
                  exact ⟨rfl, hbd.trans (hbk.mono hbd.size)⟩
                · go_wp2_with fail
                  go_quiet (fail)
                  go_wp2
                  exact ⟨⟨k + 1, by go_num, HLK.out, HSTEP.out (by simp), below_drewN HBW.out _⟩, by have := HLK.out; simp [intOf]; omega⟩
              · go_wp2_with fail
                go_quiet (fail)
                go_wp2
                exact ⟨⟨k + 1, by go_num, HLK.out, HSTEP.out (by simp), below_drewN HBW.out _⟩, by have := HLK.out; simp [intOf]; omega⟩
            · go_wp2_with fail
              go_quiet (fail)
              go_wp2
              exact ⟨⟨k + 1, by go_num, HLK.out, HSTEP.out (by simp), below_drewN HBW.out _⟩, by have := HLK.out; simp [intOf]; omega⟩
        · obtain rfl : k = i := by omega
          go_wp2
          refine ⟨⟨k + 1, by go_num, HLT.out, fun j hj hji => ?_, hbq⟩, by have := HLT.out; simp [intOf]; omega⟩
          rcases Nat.lt_or_ge j k with h3 | h3
          · exact HALL.out j hj h3
          · obtain rfl : j = k := by omega
            rw [HX.out]
            exact ⟨HIB.out, fun m hm => HALL2.out m (by omega) hm⟩
    · obtain rfl : i = l.length := by omega
      have hlti : ¬ ((l.length : Int) < (l.length : Int)) := by omega
      have HONE := Lib.hid (one_of (fun j hj k hk => (HALL.out j hj hj).2 k hk))
      have HIT := Lib.hid (show ∀ x ∈ l, itB x = true from fun x hx => by obtain ⟨j, hj, rfl⟩ := List.getElem_of_mem hx; exact (HALL.out j hj hj).1)
      have hm0 := (Kn.start w).below hb
      clear HALL hb
      obtain ⟨y0, hy0⟩ : ∃ x, x = wr := ⟨_, rfl⟩
      subst hy0
      go_wp2_with fail
      refine (fnew_any _).mono ?_
      rintro e w2 ⟨pa, Fa, rfl, ho, hlo, hb⟩
      have hm1 : Kn w w2 [(pa, kn0, Fa)] [] [] := hm0.addSet hb ho hlo
      clear hm0 ho hlo hb hlti
      go_wp2_with fail
      refine (fnew_any _).mono ?_
      rintro e w3 ⟨pb, Fb, rfl, ho, hlo, hb⟩
      have hm : Kn w w3 [(pa, kn0, Fa), (pb, kn0, Fb)] [] [] := hm1.addSet hb ho hlo
      clear hm1 ho hlo hb
      have hll : l.length ≤ 100 := by omega
      have HA := Lib.hid (fsee_any (hm.set (pa, kn0, Fa) (by simp)).1 _ l (H0.out.below hm.bel) (by simp [kn0]; omega) (by simp [kn0]; omega))
      go_wp2_with fail
      refine HA.out.mono ?_
      rintro e w4 ⟨bs, cs, rfl, ⟨⟨i, hi2, hf⟩, _⟩ | ⟨_, _, hcs, ⟨Ga, hs1', hm1⟩, hk1⟩⟩
      · exact absurd hf (by rw [HIT.out i hi2]; decide)
      subst hcs
      have HINV := Lib.hid (show Inv (seeDs kn0 l).1 l from (Inv.steps HONE.out HIT.out Inv.zero (by simp) (fun x hx => hx)).perm (fun x => by simp))
      have hla := seeDs_len (D := kn0) Good.zero HIT.out
      have hla2 : (l.filter fun x => !decide (In (kn0).S.1 (kn0).S.2 x.d)).length ≤ l.length := List.length_filter_le _ _
      obtain ⟨Da, hDa⟩ : ∃ D, (seeDs kn0 l).1 = D := ⟨_, rfl⟩
      replace hla : Da.I.length ≤ 100 ∧ Da.S.2.length ≤ 100 := by
        rw [← hDa]
        have h1 : kn0.I.length = 0 := rfl
        have h2 : kn0.S.2.length = 0 := rfl
        obtain ⟨h3, h4⟩ := hla
        rw [h1] at h3
        rw [h2] at h4
        omega
      rw [hDa] at hs1' HINV
      replace hm : Kn w w4 [(pa, Da, Ga), (pb, kn0, Fb)] [] [] := Kn.op (A := []) (B := [(pb, kn0, Fb)]) hm hk1 hs1' hm1
      clear HA hs1' hm1 hk1 hla2 hDa
      go_wp2_with fail
      go_loopw [13] (fun z wr => ∃ (i : Nat) (D : St) (s : List It) (G : Nat → Prop), z = .int .i64 (i : Int) ∧ i ≤ o.length ∧ Kn w wr [(pa, Da, Ga), (pb, D, G)] [] [] ∧ Inv D s ∧ (∀ x ∈ s, x ∈ l) ∧ D.I.length ≤ i ∧ D.S.2.length ≤ i) (fun z _ => o.length - (intOf z).toNat)
      case atStart => exact ⟨0, kn0, [], Fb, rfl, Nat.zero_le _, hm, Inv.zero, by simp, Nat.le_refl _, Nat.le_refl _⟩
      case round =>
        obtain ⟨i, D, s, G, rfl, hi, hm, hinv, hsl, hdl, hdx⟩ := hrel
        have HI := Lib.hid (And.intro hinv (And.intro hsl (And.intro hdl hdx)))
        clear hinv hsl hdl hdx
        by_cases hlt : i < o.length ∧ 0 < l.length
        · have hlt1 : (i : Int) < (o.length : Int) := by omega
          have hlt2 : (0 : Int) < (l.length : Int) := by omega
          have hne : ¬ ((l.length : Int) = 0) := by omega
          obtain ⟨n, hn⟩ : ∃ n, o[i]'hlt.1 = n := ⟨_, rfl⟩
          obtain ⟨b1, o1, e1, hx1⟩ := (H1.out.below hm.bel).at_ i hlt.1
          have q0 := hx1 0 (by decide)
          rw [hn] at q0
          replace q0 : wr.cell? ⟨b1, o1 + i, none⟩ = some (.int .i64 n) := by simpa [kInt] using q0
          subst e1
          have HLT := Lib.hid hlt
          clear hlt hn hx1
          obtain ⟨j, hj, hjl⟩ : ∃ j : Nat, (wrap64 (n.tmod ↑l.length + ↑l.length)).tmod ↑l.length = (j : Int) ∧ j < l.length := by
            have a1 := Int.tmod_lt_of_pos n hlt2
            have a2 := Int.lt_tmod_of_pos n hlt2
            have a3 : wrap64 (n.tmod ↑l.length + ↑l.length) = n.tmod ↑l.length + ↑l.length := by unfold wrap64; omega
            rw [a3, Int.tmod_eq_emod_of_nonneg (by omega)]
            have a4 := Int.emod_lt_of_pos (n.tmod ↑l.length + ↑l.length) hlt2
            have a5 := Int.emod_nonneg (n.tmod ↑l.length + ↑l.length) hne
            exact ⟨((n.tmod ↑l.length + ↑l.length) % ↑l.length).toNat, by omega, by omega⟩
          have hjli : (j : Int) < (l.length : Int) := by omega
          obtain ⟨x, hx⟩ : ∃ x, l[j] = x := ⟨_, rfl⟩
          obtain ⟨b0, o0, e0, r0, r1, r2, r3, r4⟩ := (H0.out.below hm.bel).item j hjl x hx
          subst e0
          have HXM := Lib.hid (show x ∈ l from by rw [← hx]; exact List.getElem_mem hjl)
          clear hx hjl
          have hS := itc_one x wr
          have hA : Below wr.heap.size wr (wr.alloc (.cells #[.int .i64 x.d.1, .int .u64 (x.d.2 : Int), .string x.t, .string x.v, .bool x.g] 48)) := (Below.refl _ _).alloc (Nat.le_refl _) _
          have HA := Lib.hid (fsee_any ((hm.below hA).set (pb, D, G) (by simp)).1 _ [x] hS (by have := HI.out.2.2.1; have := HLT.out.1; simp; omega) (by have := HI.out.2.2.2; have := HLT.out.1; simp; omega))
          replace hm := hm.below hA
          clear hS hA
          go_wp2_with fail
          refine HA.out.mono ?_
          rintro e w5 ⟨bs5, cs5, rfl, ⟨⟨y, hy2, hf⟩, _⟩ | ⟨_, _, hcs5, ⟨G5, hs5, hm5⟩, hk5⟩⟩
          · exact absurd hf (by rw [List.mem_singleton.1 hy2, HIT.out x HXM.out]; decide)
          subst hcs5
          replace hm : Kn w w5 [(pa, Da, Ga), (pb, (seeDs D [x]).1, G5)] [] [] := Kn.op (A := [(pa, Da, Ga)]) (B := []) hm hk5 hs5 hm5
          obtain ⟨D5, hD5⟩ : ∃ D', (seeDs D [x]).1 = D' := ⟨_, rfl⟩
          have HI5 := Lib.hid (show Inv D5 (x :: s) ∧ (∀ y ∈ x :: s, y ∈ l) ∧ D5.I.length ≤ i + 1 ∧ D5.S.2.length ≤ i + 1 from by
            obtain ⟨i1, i2, i3, i4⟩ := HI.out
            have := seeDs_one i1.good (HIT.out x HXM.out)
            rw [hD5] at this
            refine ⟨by rw [← hD5]; exact i1.step HONE.out i2 HXM.out (HIT.out x HXM.out), fun y hy => ?_, by omega, by omega⟩
            rcases List.mem_cons.1 hy with rfl | hy
            · exact HXM.out
            · exact i2 y hy)
          rw [hD5] at hm
          clear HA hs5 hm5 hk5 hD5 r0 r1 r2 r3 r4 q0 hj hjli hlt2 hne
          by_cases hic : i < cl.length
          · have hici : (i : Int) < (cl.length : Int) := by omega
            obtain ⟨d, hd⟩ : ∃ d, cl[i] = d := ⟨_, rfl⟩
            obtain ⟨b2, o2, e2, d0, d1⟩ := (H2.out.below hm.bel).at_ i hic d hd
            subst e2
            have HA := Lib.hid (fcollect_any (hm.set (pb, D5, G5) (by simp)).1 d)
            clear hd hic
            go_wp2_with fail
            refine HA.out.mono ?_
            rintro e w6 (⟨_, rfl, hb6⟩ | ⟨_, _, rfl, hb6⟩ | ⟨_, hg6, rfl, hs6, hk6⟩)
            · replace hm := hm.below hb6
              clear HA hb6
              go_wp2
              exact ⟨⟨i + 1, D5, x :: s, G5, by go_num, HLT.out.1, hm, HI5.out⟩, by have := HLT.out.1; simp [intOf]; omega⟩
            · replace hm := hm.below hb6
              clear HA hb6
              go_wp2
              exact ⟨⟨i + 1, D5, x :: s, G5, by go_num, HLT.out.1, hm, HI5.out⟩, by have := HLT.out.1; simp [intOf]; omega⟩
            · have hm6 : Kn w w6 [(pa, Da, Ga), (pb, ⟨D5.S, colI D5.I d⟩, G5)] [] [] := Kn.op (A := [(pa, Da, Ga)]) (B := []) hm hk6 hs6 (fun i hi => .inl hi)
              have HI6 := Lib.hid (show Inv ⟨D5.S, colI D5.I d⟩ (x :: s) ∧ (∀ y ∈ x :: s, y ∈ l) ∧ (colI D5.I d).length ≤ i + 1 ∧ D5.S.2.length ≤ i + 1 from by
                obtain ⟨i1, i2, i3, i4⟩ := HI5.out
                have : (colI D5.I d).length ≤ D5.I.length := List.length_filter_le _ _
                exact ⟨i1.col hg6, i2, by omega, i4⟩)
              clear HA hm hg6 hs6 hk6
              go_wp2
              exact ⟨⟨i + 1, ⟨D5.S, colI D5.I d⟩, x :: s, G5, by go_num, HLT.out.1, hm6, HI6.out⟩, by have := HLT.out.1; simp [intOf]; omega⟩
          · have hici : ¬ (i : Int) < (cl.length : Int) := by omega
            clear hic
            go_wp2
            exact ⟨⟨i + 1, D5, x :: s, G5, by go_num, HLT.out.1, hm, HI5.out⟩, by have := HLT.out.1; simp [intOf]; omega⟩
        · by_cases hio : i < o.length
          · have hlt1 : (i : Int) < (o.length : Int) := by omega
            have hlt2 : ¬ (0 : Int) < (l.length : Int) := by omega
            have HL0 := Lib.hid (show l.length = 0 by omega)
            clear hlt hio
            go_wp2_with fail
            clear hlt1 hlt2
            go_loopw [16] (fun z wr => ∃ (i4 : Nat) (e4 : Int) (D4 : St) (s4 : List It) (G4 : Nat → Prop), z = .int .i64 e4 ∧ e4 + 1 = (i4 : Int) ∧ i4 ≤ l.length ∧ Kn w wr [(pa, Da, Ga), (pb, D4, G4)] [] [] ∧ Inv D4 s4 ∧ (∀ x ∈ s4, x ∈ l) ∧ (∀ j (hj : j < l.length), i4 ≤ j → l[j] ∈ s4) ∧ D4.I.length + i4 ≤ 300 + l.length ∧ D4.S.2.length + i4 ≤ 300 + l.length) (fun z _ => (intOf z + 1).toNat)
            case atStart => exact ⟨l.length, (l.length : Int) - 1, D, s, G, by go_num, by omega, Nat.le_refl _, hm, HI.out.1, HI.out.2.1, fun j hj h => absurd h (by omega), by have := HI.out.2.2.1; omega, by have := HI.out.2.2.2; omega⟩
            case round =>
              clear hm HI D s G
              obtain ⟨i4, e4, D4, s4, G4, rfl, he4, hi4, hm, hinv, hsl, hall4, hdl, hdx⟩ := hrel
              have HI4 := Lib.hid (And.intro hinv (And.intro hsl (And.intro hall4 (And.intro hdl hdx))))
              clear hinv hsl hall4 hdl hdx
              rcases i4 with _ | m
              · obtain rfl : e4 = -1 := by omega
                have hinvb := Lib.hid (show Inv D4 l from HI4.out.1.perm (fun x => ⟨HI4.out.2.1 x, fun hx => by obtain ⟨j, hj, rfl⟩ := List.getElem_of_mem hx; exact HI4.out.2.2.1 j hj (Nat.zero_le _)⟩))
                have hS4 := HINV.out.sameS hinvb.out
                have hlb : D4.I.length ≤ 400 ∧ D4.S.2.length ≤ 400 := by obtain ⟨_, _, _, h1, h2⟩ := HI4.out; omega
                have HA := Lib.hid (fctx_any (hm.set (pa, Da, Ga) (by simp)).1 (by simp; omega))
                clear HI4 he4 hi4
                go_wp2_with fail
                refine HA.out.mono ?_
                rintro e x1 ⟨ga, va, rfl, hcxa, _, hb⟩
                replace hm := hm.below hb
                clear HA hb
                have HA := Lib.hid (fctx_any (hm.set (pb, D4, G4) (by simp)).1 (by simp; omega))
                go_wp2_with fail
                refine HA.out.mono ?_
                rintro e x2 ⟨gb, vb, rfl, hcxb, _, hb⟩
                replace hm := hm.below hb
                replace hcxa := hcxa.below hb
                clear HA hb
                have HA := Lib.hid (same_any ga gb va vb _ _ _ _ x2 hcxa hcxb (by first | omega | (simp; omega)) (by first | omega | (simp; omega)))
                rw [decide_eq_true (show Da.S.1 = D4.S.1 ∧ Da.S.2 = D4.S.2 from by rw [hS4]; exact ⟨rfl, rfl⟩)] at HA
                clear hcxa hcxb hS4
                go_wp2_with fail
                refine HA.out.mono ?_
                rintro e x3 ⟨rfl, hb⟩
                replace hm := hm.below hb
                clear HA hb
                go_wp2_with fail
                go_loopw [17] (fun z wr => ∃ i5 : Nat, z = .int .i64 (i5 : Int) ∧ i5 ≤ l.length ∧ Kn w wr [(pa, Da, Ga), (pb, D4, G4)] [] []) (fun z _ => l.length - (intOf z).toNat)
                case atStart => exact ⟨0, rfl, Nat.zero_le _, hm⟩
                case round =>
                  clear hm
                  obtain ⟨i5, rfl, hi5, hm⟩ := hrel
                  by_cases hlt5 : i5 < l.length
                  · exfalso; have := HL0.out; omega
                  · obtain rfl : i5 = l.length := by omega
                    have hlti5 : ¬ ((l.length : Int) < (l.length : Int)) := by omega
                    have HA := Lib.hid (fkeys_any (hm.set (pa, Da, Ga) (by simp)).1 (by simp; omega))
                    clear hlt5
                    go_wp2_with fail
                    refine HA.out.mono ?_
                    rintro e x5 ⟨ya, Ma, rfl, hka, hoa, hla5, hb⟩
                    replace hm := hm.below hb
                    clear HA hb
                    have HA := Lib.hid (fkeys_any (hm.set (pb, D4, G4) (by simp)).1 (by simp; omega))
                    go_wp2_with fail
                    refine HA.out.mono ?_
                    rintro e x6 ⟨yb, Mb, rfl, hkb, hob, hlb5, hb⟩
                    replace hm := hm.below hb
                    replace hoa := hoa.below hb
                    clear HA hb
                    have hab : Ma = Mb := HINV.out.sameKeys hinvb.out hka hkb
                    have HA := Lib.hid (sameKeys_any ya yb Ma Mb x6 (own_ky hoa).sd (own_ky hob).sd (by first | omega | (simp at hla5; omega)) (by first | omega | (simp at hlb5; omega)))
                    rw [decide_eq_true hab] at HA
                    clear hab hka hkb hla5 hlb5 hoa hob
                    go_wp2_with fail
                    refine HA.out.mono ?_
                    rintro e x7 ⟨rfl, nd, hnd⟩
                    have hb : Below x6.heap.size x6 x7 := by rw [hnd]; exact below_drewN (Below.refl _ _) nd
                    replace hm := hm.below hb
                    clear HA hb hnd
                    go_wp2_with fail
                    refine (oknown_any _).mono ?_
                    rintro e x8 ⟨rfl, hb⟩
                    have hfin := hm.bel.trans (hb.mono hm.bel.size)
                    clear hm hb
                    go_wp2
                    go_ret
                    exact ⟨rfl, hfin⟩
              · exfalso; have := HL0.out; omega
          · have hlt1 : ¬ (i : Int) < (o.length : Int) := by omega
            clear hlt hio
            go_wp2_with fail
            clear hlt1
            go_loopw [16] (fun z wr => ∃ (i4 : Nat) (e4 : Int) (D4 : St) (s4 : List It) (G4 : Nat → Prop), z = .int .i64 e4 ∧ e4 + 1 = (i4 : Int) ∧ i4 ≤ l.length ∧ Kn w wr [(pa, Da, Ga), (pb, D4, G4)] [] [] ∧ Inv D4 s4 ∧ (∀ x ∈ s4, x ∈ l) ∧ (∀ j (hj : j < l.length), i4 ≤ j → l[j] ∈ s4) ∧ D4.I.length + i4 ≤ 300 + l.length ∧ D4.S.2.length + i4 ≤ 300 + l.length) (fun z _ => (intOf z + 1).toNat)
            case atStart => exact ⟨l.length, (l.length : Int) - 1, D, s, G, by go_num, by omega, Nat.le_refl _, hm, HI.out.1, HI.out.2.1, fun j hj h => absurd h (by omega), by have := HI.out.2.2.1; omega, by have := HI.out.2.2.2; omega⟩
            case round =>
              clear hm HI D s G
              obtain ⟨i4, e4, D4, s4, G4, rfl, he4, hi4, hm, hinv, hsl, hall4, hdl, hdx⟩ := hrel
              have HI4 := Lib.hid (And.intro hinv (And.intro hsl (And.intro hall4 (And.intro hdl hdx))))
              clear hinv hsl hall4 hdl hdx
              rcases i4 with _ | m
              · obtain rfl : e4 = -1 := by omega
                have hinvb := Lib.hid (show Inv D4 l from HI4.out.1.perm (fun x => ⟨HI4.out.2.1 x, fun hx => by obtain ⟨j, hj, rfl⟩ := List.getElem_of_mem hx; exact HI4.out.2.2.1 j hj (Nat.zero_le _)⟩))
                have hS4 := HINV.out.sameS hinvb.out
                have hlb : D4.I.length ≤ 400 ∧ D4.S.2.length ≤ 400 := by obtain ⟨_, _, _, h1, h2⟩ := HI4.out; omega
                have HA := Lib.hid (fctx_any (hm.set (pa, Da, Ga) (by simp)).1 (by simp; omega))
                clear HI4 he4 hi4
                go_wp2_with fail
                refine HA.out.mono ?_
                rintro e x1 ⟨ga, va, rfl, hcxa, _, hb⟩
                replace hm := hm.below hb
                clear HA hb
                have HA := Lib.hid (fctx_any (hm.set (pb, D4, G4) (by simp)).1 (by simp; omega))
                go_wp2_with fail
                refine HA.out.mono ?_
                rintro e x2 ⟨gb, vb, rfl, hcxb, _, hb⟩
                replace hm := hm.below hb
                replace hcxa := hcxa.below hb
                clear HA hb
                have HA := Lib.hid (same_any ga gb va vb _ _ _ _ x2 hcxa hcxb (by first | omega | (simp; omega)) (by first | omega | (simp; omega)))
                rw [decide_eq_true (show Da.S.1 = D4.S.1 ∧ Da.S.2 = D4.S.2 from by rw [hS4]; exact ⟨rfl, rfl⟩)] at HA
                clear hcxa hcxb hS4
                go_wp2_with fail
                refine HA.out.mono ?_
                rintro e x3 ⟨rfl, hb⟩
                replace hm := hm.below hb
                clear HA hb
                go_wp2_with fail
                go_loopw [17] (fun z wr => ∃ i5 : Nat, z = .int .i64 (i5 : Int) ∧ i5 ≤ l.length ∧ Kn w wr [(pa, Da, Ga), (pb, D4, G4)] [] []) (fun z _ => l.length - (intOf z).toNat)
                case atStart => exact ⟨0, rfl, Nat.zero_le _, hm⟩
                case round =>
                  clear hm
                  obtain ⟨i5, rfl, hi5, hm⟩ := hrel
                  by_cases hlt5 : i5 < l.length
                  · have hlti5 : (i5 : Int) < (l.length : Int) := by omega
                    obtain ⟨x, hx⟩ : ∃ x, l[i5] = x := ⟨_, rfl⟩
                    obtain ⟨bA, oA, e0, r0, r1, r2, r3, r4⟩ := (H0.out.below hm.bel).item i5 hlt5 x hx
                    subst e0
                    have hok := OkD.of_may (itB_may (HIT.out x (by rw [← hx]; exact List.getElem_mem hlt5)))
                    have HL5 := Lib.hid hlt5
                    have HX5 := Lib.hid hx
                    obtain ⟨⟨kt, ku⟩, hkk⟩ : ∃ k, keyI Da.I x.d = k := ⟨_, rfl⟩
                    obtain ⟨lv, hlv⟩ : ∃ q, liveAt Da.I x.d = q := ⟨_, rfl⟩
                    have hkk2 := hkk
                    have hlv2 := hlv
                    rw [HINV.out.sameKey hinvb.out] at hkk2
                    rw [HINV.out.sameLive hinvb.out] at hlv2
                    obtain ⟨gn, hgn⟩ : ∃ q, (!liveAt Da.I x.d && decide (In Da.S.1 Da.S.2 x.d)) = q := ⟨_, rfl⟩
                    have hgn2 := hgn
                    rw [HINV.out.sameLive hinvb.out, HINV.out.sameS hinvb.out] at hgn2
                    have HA := Lib.hid (flive_any (hm.set (pa, Da, Ga) (by simp)).1 x.d hok)
                    have HB5 := Lib.hid (fun X (h : OsF X pb D4 G4) => flive_any h x.d hok)
                    have HGa := Lib.hid (fun X (h : OsF X pa Da Ga) => fgone_any h (by omega) x.d hok)
                    have HGb := Lib.hid (fun X (h : OsF X pb D4 G4) => fgone_any h (by omega) x.d hok)
                    rw [hkk, hlv] at HA
                    rw [hkk2, hlv2] at HB5
                    rw [hgn] at HGa
                    rw [hgn2] at HGb
                    clear hx hkk hlv hkk2 hlv2 hgn hgn2 hok
                    go_wp2_with fail
                    refine HA.out.mono ?_
                    rintro e y7 ⟨rfl, hb⟩
                    replace hm := (hm.below hb).newBox 39 #[.string kt, .string ku]
                    clear HA hb r0 r1 r2 r3 r4
                    go_upto_region 35 with fail
                    change Code.wp _ _ _ _ (y7.alloc (.cells #[.string kt, .string ku] 39))
                    generalize y7.alloc (.cells #[.string kt, .string ku] 39) = y8 at hm ⊢
                    generalize y7.heap.size = za at hm ⊢
                    obtain ⟨b0, o0, e0, r0, r1, r2, r3, r4⟩ := (H0.out.below hm.bel).item i5 HL5.out x HX5.out
                    injection e0 with e0
                    injection e0 with e1 e2
                    subst e1; subst e2
                    have HA := Lib.hid (HB5.out _ (hm.set (pb, D4, G4) (by simp)).1)
                    clear HB5
                    go_wp2_with fail
                    refine HA.out.mono ?_
                    rintro e y9 ⟨rfl, hb⟩
                    replace hm := (hm.below hb).newBox 39 #[.string kt, .string ku]
                    clear HA hb r0 r1 r2 r3 r4
                    go_upto_region 36 with fail
                    change Code.wp _ _ _ _ (y9.alloc (.cells #[.string kt, .string ku] 39))
                    generalize y9.alloc (.cells #[.string kt, .string ku] 39) = Y9 at hm ⊢
                    generalize y9.heap.size = zb at hm ⊢
                    have HGA := Lib.hid (show ∀ X, Kn w X [(pa, Da, Ga), (pb, D4, G4)] [(zb, 39, #[.string kt, .string ku]), (za, 39, #[.string kt, .string ku])] [] → _ from fun X h => HGa.out X (h.set (pa, Da, Ga) (by simp)).1)
                    have HGB := Lib.hid (show ∀ X, Kn w X [(pa, Da, Ga), (pb, D4, G4)] [(zb, 39, #[.string kt, .string ku]), (za, 39, #[.string kt, .string ku])] [] → _ from fun X h => HGb.out X (h.set (pb, D4, G4) (by simp)).1)
                    clear HGa HGb
                    refine wp_region_held_drew (S := fun X => Below Y9.drew.heap.size Y9.drew X) hfo (Below.refl _ _) (fun hS0 => ?_)
                    replace hm := hm.below (show Below Y9.heap.size Y9 Y9.drew from (Below.refl _ _).drew)
                    generalize Y9.drew = Z0 at hS0 hm ⊢
                    refine' wpAnyH_take (i := 0) (oi := ⟨some 196, _, _, _, _, _⟩) (v := _) rfl (by kernel_rfl) (by kernel_rfl) (by kernel_rfl) (fun _ _ _ h => h) (Or.inl ⟨by rfl, ?y0r⟩) hS0 ?r0r
                    case y0r =>
                      intro w' hSw
                      have hM := hm.below hSw
                      have c0 : w'.cell? ⟨zb, 0, none⟩ = some (.string kt) := (by rw [(hM.box (zb, 39, #[.string kt, .string ku]) (by simp)).1.cell]; rfl)
                      have c1 : w'.cell? ⟨zb, 1, none⟩ = some (.string ku) := (by rw [(hM.box (zb, 39, #[.string kt, .string ku]) (by simp)).1.cell]; rfl)
                      have c2 : w'.cell? ⟨za, 0, none⟩ = some (.string kt) := (by rw [(hM.box (za, 39, #[.string kt, .string ku]) (by simp)).1.cell]; rfl)
                      have c3 : w'.cell? ⟨za, 1, none⟩ = some (.string ku) := (by rw [(hM.box (za, 39, #[.string kt, .string ku]) (by simp)).1.cell]; rfl)
                      go_simp
                      try rfl
                    try simp only [Act.put, List.setIfInBounds_toArray, List.set_cons_zero, List.set_cons_succ]
                    refine' wpAnyH_take (i := 1) (oi := ⟨some 197, _, _, _, _, _⟩) (v := _) rfl (by kernel_rfl) (by kernel_rfl) (by kernel_rfl) (fun _ _ _ h => h) (Or.inl ⟨by rfl, ?y1r⟩) hS0 ?r1r
                    case y1r =>
                      intro w' hSw
                      have hM := hm.below hSw
                      have c0 : w'.cell? ⟨zb, 0, none⟩ = some (.string kt) := (by rw [(hM.box (zb, 39, #[.string kt, .string ku]) (by simp)).1.cell]; rfl)
                      have c1 : w'.cell? ⟨zb, 1, none⟩ = some (.string ku) := (by rw [(hM.box (zb, 39, #[.string kt, .string ku]) (by simp)).1.cell]; rfl)
                      have c2 : w'.cell? ⟨za, 0, none⟩ = some (.string kt) := (by rw [(hM.box (za, 39, #[.string kt, .string ku]) (by simp)).1.cell]; rfl)
                      have c3 : w'.cell? ⟨za, 1, none⟩ = some (.string ku) := (by rw [(hM.box (za, 39, #[.string kt, .string ku]) (by simp)).1.cell]; rfl)
                      go_simp
                      try rfl
                    try simp only [Act.put, List.setIfInBounds_toArray, List.set_cons_zero, List.set_cons_succ]
                    refine' wpAnyH_take (i := 2) (oi := ⟨some 198, _, _, _, _, _⟩) (v := .bool false) rfl (by kernel_rfl) (by kernel_rfl) (by kernel_rfl) (fun _ _ _ h => h) (Or.inl ⟨by rfl, ?y2r⟩) hS0 ?r2r
                    case y2r =>
                      intro w' hSw
                      have hke := key_eq kt ku kt ku w'
                      rw [decide_eq_true ⟨rfl, rfl⟩] at hke
                      go_simp
                      try rfl
                    try simp only [Act.put, List.setIfInBounds_toArray, List.set_cons_zero, List.set_cons_succ]
                    refine' wpAnyH_take (i := 3) (oi := ⟨some 199, _, _, _, _, _⟩) (v := _) rfl (by kernel_rfl) (by kernel_rfl) (by kernel_rfl) (fun _ _ _ h => h) (Or.inl ⟨by rfl, ?y3r⟩) hS0 ?r3r
                    case y3r =>
                      intro w' hSw
                      go_simp
                      try rfl
                    try simp only [Act.put, List.setIfInBounds_toArray, List.set_cons_zero, List.set_cons_succ]
                    refine' wpAnyH_take (i := 4) (oi := ⟨some 200, _, _, _, _, _⟩) (v := _) rfl (by kernel_rfl) (by kernel_rfl) (by kernel_rfl) (fun _ _ _ h => h) (Or.inl ⟨by rfl, ?y4r⟩) hS0 ?r4r
                    case y4r =>
                      intro w' hSw
                      go_simp
                      try rfl
                    try simp only [Act.put, List.setIfInBounds_toArray, List.set_cons_zero, List.set_cons_succ]
                    refine' wpAnyH_take (i := 5) (oi := ⟨some 201, _, _, _, _, _⟩) (v := _) rfl (by kernel_rfl) (by kernel_rfl) (by kernel_rfl) (fun _ _ _ h => h) (Or.inl ⟨by rfl, ?y5r⟩) hS0 ?r5r
                    case y5r =>
                      intro w' hSw
                      go_simp
                      try rfl
                    try simp only [Act.put, List.setIfInBounds_toArray, List.set_cons_zero, List.set_cons_succ]
                    refine' wpAnyH_take (i := 6) (oi := ⟨some 202, _, _, _, _, _⟩) (v := .bool false) rfl (by kernel_rfl) (by kernel_rfl) (by kernel_rfl) (fun _ _ _ h => h) (Or.inl ⟨by rfl, ?y6r⟩) hS0 ?r6r
                    case y6r =>
                      intro w' hSw
                      go_simp
                      try rfl
                    try simp only [Act.put, List.setIfInBounds_toArray, List.set_cons_zero, List.set_cons_succ]
                    refine' wpAnyH_take (i := 7) (oi := ⟨some 203, _, _, _, _, _⟩) (v := .bool false) rfl (by kernel_rfl) (by kernel_rfl) (by kernel_rfl) (fun _ _ _ h => h) (Or.inl ⟨by rfl, ?y7r⟩) hS0 ?r7r
                    case y7r =>
                      intro w' hSw
                      go_simp
                      try rfl
                    try simp only [Act.put, List.setIfInBounds_toArray, List.set_cons_zero, List.set_cons_succ]
                    refine' wpAnyH_take (i := 8) (oi := ⟨some 204, _, _, _, _, _⟩) (v := _) rfl (by kernel_rfl) (by kernel_rfl) (by kernel_rfl) (fun _ _ _ h => h) (Or.inl ⟨by rfl, ?y8r⟩) hS0 ?r8r
                    case y8r =>
                      intro w' hSw
                      go_simp
                      try rfl
                    try simp only [Act.put, List.setIfInBounds_toArray, List.set_cons_zero, List.set_cons_succ]
                    refine' wpAnyH_take (i := 9) (oi := ⟨some 205, _, _, _, _, _⟩) (v := _) rfl (by kernel_rfl) (by kernel_rfl) (by kernel_rfl) (fun _ _ _ h => h) (Or.inl ⟨by rfl, ?y9r⟩) hS0 ?r9r
                    case y9r =>
                      intro w' hSw
                      go_simp
                      try rfl
                    try simp only [Act.put, List.setIfInBounds_toArray, List.set_cons_zero, List.set_cons_succ]
                    refine' wpAnyH_take (i := 10) (oi := ⟨some 206, _, _, _, _, _⟩) (v := _) rfl (by kernel_rfl) (by kernel_rfl) (by kernel_rfl) (fun _ _ _ h => h) (Or.inl ⟨by rfl, ?y10r⟩) hS0 ?r10r
                    case y10r =>
                      intro w' hSw
                      go_simp
                      try rfl
                    try simp only [Act.put, List.setIfInBounds_toArray, List.set_cons_zero, List.set_cons_succ]
                    refine' wpAnyH_take (i := 11) (oi := ⟨some 207, _, _, _, _, _⟩) (v := _) rfl (by kernel_rfl) (by kernel_rfl) (by kernel_rfl) (fun _ _ _ h => h) (Or.inl ⟨by rfl, ?y11r⟩) hS0 ?r11r
                    case y11r =>
                      intro w' hSw
                      go_simp
                      try rfl
                    try simp only [Act.put, List.setIfInBounds_toArray, List.set_cons_zero, List.set_cons_succ]
                    refine' wpAnyH_take (i := 12) (oi := ⟨some 208, _, _, _, _, _⟩) (v := _) rfl (by kernel_rfl) (by kernel_rfl) (by kernel_rfl) (fun _ _ _ h => h) (Or.inl ⟨by rfl, ?y12r⟩) hS0 ?r12r
                    case y12r =>
                      intro w' hSw
                      go_simp
                      try rfl
                    try simp only [Act.put, List.setIfInBounds_toArray, List.set_cons_zero, List.set_cons_succ]
                    refine' wpAnyH_take (i := 13) (oi := ⟨some 209, _, _, _, _, _⟩) (v := _) rfl (by kernel_rfl) (by kernel_rfl) (by kernel_rfl) (fun _ _ _ h => h) (Or.inl ⟨by rfl, ?y13r⟩) hS0 ?r13r
                    case y13r =>
                      intro w' hSw
                      go_simp
                      try rfl
                    try simp only [Act.put, List.setIfInBounds_toArray, List.set_cons_zero, List.set_cons_succ]
                    refine' wpAnyH_take (i := 14) (oi := ⟨some 210, _, _, _, _, _⟩) (v := _) rfl (by kernel_rfl) (by kernel_rfl) (by kernel_rfl) (fun _ _ _ h => h) (Or.inl ⟨by rfl, ?y14r⟩) hS0 ?r14r
                    case y14r =>
                      intro w' hSw
                      have hM := hm.below hSw
                      obtain ⟨b0, o0, e0, r0, r1, r2, r3, r4⟩ := (H0.out.below hM.bel).item i5 HL5.out x HX5.out
                      injection e0 with e0
                      injection e0 with e1 e2
                      subst e1; subst e2
                      go_simp
                      try rfl
                    try simp only [Act.put, List.setIfInBounds_toArray, List.set_cons_zero, List.set_cons_succ]
                    refine' wpAnyH_take (i := 16) (oi := ⟨some 212, _, _, _, _, _⟩) (v := _) rfl (by kernel_rfl) (by kernel_rfl) (by kernel_rfl) (fun _ _ _ h => h) (Or.inl ⟨by rfl, ?y16r⟩) hS0 ?r16r
                    case y16r =>
                      intro w' hSw
                      go_simp
                      try rfl
                    try simp only [Act.put, List.setIfInBounds_toArray, List.set_cons_zero, List.set_cons_succ]
                    refine' wpAnyH_take (i := 17) (oi := ⟨some 213, _, _, _, _, _⟩) (v := _) rfl (by kernel_rfl) (by kernel_rfl) (by kernel_rfl) (fun _ _ _ h => h) (Or.inl ⟨by rfl, ?y17r⟩) hS0 ?r17r
                    case y17r =>
                      intro w' hSw
                      go_simp
                      try rfl
                    try simp only [Act.put, List.setIfInBounds_toArray, List.set_cons_zero, List.set_cons_succ]
                    refine' wpAnyH_take (i := 18) (oi := ⟨some 214, _, _, _, _, _⟩) (v := _) rfl (by kernel_rfl) (by kernel_rfl) (by kernel_rfl) (fun _ _ _ h => h) (Or.inl ⟨by rfl, ?y18r⟩) hS0 ?r18r
                    case y18r =>
                      intro w' hSw
                      go_simp
                      try rfl
                    try simp only [Act.put, List.setIfInBounds_toArray, List.set_cons_zero, List.set_cons_succ]
                    refine' wpAnyH_take (i := 19) (oi := ⟨some 215, _, _, _, _, _⟩) (v := _) rfl (by kernel_rfl) (by kernel_rfl) (by kernel_rfl) (fun _ _ _ h => h) (Or.inl ⟨by rfl, ?y19r⟩) hS0 ?r19r
                    case y19r =>
                      intro w' hSw
                      go_simp
                      try rfl
                    try simp only [Act.put, List.setIfInBounds_toArray, List.set_cons_zero, List.set_cons_succ]
                    refine' wpAnyH_take (i := 20) (oi := ⟨some 216, _, _, _, _, _⟩) (v := _) rfl (by kernel_rfl) (by kernel_rfl) (by kernel_rfl) (fun _ _ _ h => h) (Or.inl ⟨by rfl, ?y20r⟩) hS0 ?r20r
                    case y20r =>
                      intro w' hSw
                      go_simp
                      try rfl
                    try simp only [Act.put, List.setIfInBounds_toArray, List.set_cons_zero, List.set_cons_succ]
                    refine' wpAnyH_take (i := 21) (oi := ⟨some 217, _, _, _, _, _⟩) (v := _) rfl (by kernel_rfl) (by kernel_rfl) (by kernel_rfl) (fun _ _ _ h => h) (Or.inl ⟨by rfl, ?y21r⟩) hS0 ?r21r
                    case y21r =>
                      intro w' hSw
                      have hM := hm.below hSw
                      obtain ⟨b0, o0, e0, r0, r1, r2, r3, r4⟩ := (H0.out.below hM.bel).item i5 HL5.out x HX5.out
                      injection e0 with e0
                      injection e0 with e1 e2
                      subst e1; subst e2
                      go_simp
                      try rfl
                    try simp only [Act.put, List.setIfInBounds_toArray, List.set_cons_zero, List.set_cons_succ]
                    refine held_one (i := 15) (by kernel_rfl) rfl (fun Kc hK => ?_)
                    go_simp
                    refine (HGA.out _ (hm.below hS0)).mono ?_
                    rintro e Z15 ⟨rfl, hz15⟩
                    have hS15 := hS0.trans (hz15.mono hS0.size)
                    refine hK.out _ _ hS15 (fun _ => ?_)
                    clear hK Kc
                    try simp only [Act.put, List.setIfInBounds_toArray, List.set_cons_zero, List.set_cons_succ]
                    refine held_one (i := 22) (by kernel_rfl) rfl (fun Kc hK => ?_)
                    go_simp
                    refine (HGB.out _ (hm.below hS15)).mono ?_
                    rintro e Z22 ⟨rfl, hz22⟩
                    have hS22 := hS15.trans (hz22.mono hS15.size)
                    refine hK.out _ _ hS22 (fun _ => ?_)
                    clear hK Kc
                    try simp only [Act.put, List.setIfInBounds_toArray, List.set_cons_zero, List.set_cons_succ]
                    refine' wpAnyH_take (i := 23) (oi := ⟨some 219, _, _, _, _, _⟩) (v := .bool false) rfl (by kernel_rfl) (by kernel_rfl) (by kernel_rfl) (fun _ _ _ h => h) (Or.inl ⟨by rfl, ?y23r⟩) hS22 ?r23r
                    case y23r =>
                      intro w' hSw
                      go_simp
                      try rfl
                    try simp only [Act.put, List.setIfInBounds_toArray, List.set_cons_zero, List.set_cons_succ]
                    refine' wpAnyH_take (i := 24) (oi := ⟨some 220, _, _, _, _, _⟩) (v := .bool false) rfl (by kernel_rfl) (by kernel_rfl) (by kernel_rfl) (fun _ _ _ h => h) (Or.inl ⟨by rfl, ?y24r⟩) hS22 ?r24r
                    case y24r =>
                      intro w' hSw
                      go_simp
                      try rfl
                    try simp only [Act.put, List.setIfInBounds_toArray, List.set_cons_zero, List.set_cons_succ]
                    refine wpAnyH_done (by kernel_rfl) ?_ _
                    replace hm := hm.below hS22
                    have hfin : Kn w Z22 [(pa, Da, Ga), (pb, D4, G4)] [] [] := ⟨hm.set, hm.apart, by simp, hm.row, hm.bel⟩
                    clear hm HGA HGB
                    go_wp2
                    exact ⟨⟨i5 + 1, by go_num, HL5.out, hfin⟩, by have := HL5.out; simp [intOf]; omega⟩
                  · obtain rfl : i5 = l.length := by omega
                    have hlti5 : ¬ ((l.length : Int) < (l.length : Int)) := by omega
                    have HA := Lib.hid (fkeys_any (hm.set (pa, Da, Ga) (by simp)).1 (by simp; omega))
                    clear hlt5
                    go_wp2_with fail
                    refine HA.out.mono ?_
                    rintro e x5 ⟨ya, Ma, rfl, hka, hoa, hla5, hb⟩
                    replace hm := hm.below hb
                    clear HA hb
                    have HA := Lib.hid (fkeys_any (hm.set (pb, D4, G4) (by simp)).1 (by simp; omega))
                    go_wp2_with fail
                    refine HA.out.mono ?_
                    rintro e x6 ⟨yb, Mb, rfl, hkb, hob, hlb5, hb⟩
                    replace hm := hm.below hb
                    replace hoa := hoa.below hb
                    clear HA hb
                    have hab : Ma = Mb := HINV.out.sameKeys hinvb.out hka hkb
                    have HA := Lib.hid (sameKeys_any ya yb Ma Mb x6 (own_ky hoa).sd (own_ky hob).sd (by first | omega | (simp at hla5; omega)) (by first | omega | (simp at hlb5; omega)))
                    rw [decide_eq_true hab] at HA
                    clear hab hka hkb hla5 hlb5 hoa hob
                    go_wp2_with fail
                    refine HA.out.mono ?_
                    rintro e x7 ⟨rfl, nd, hnd⟩
                    have hb : Below x6.heap.size x6 x7 := by rw [hnd]; exact below_drewN (Below.refl _ _) nd
                    replace hm := hm.below hb
                    clear HA hb hnd
                    go_wp2_with fail
                    refine (oknown_any _).mono ?_
                    rintro e x8 ⟨rfl, hb⟩
                    have hfin := hm.bel.trans (hb.mono hm.bel.size)
                    clear hm hb
                    go_wp2
                    go_ret
                    exact ⟨rfl, hfin⟩
              · obtain rfl : e4 = (m : Int) := by omega
                have hmli : (m : Int) < (l.length : Int) := by omega
                have hm0 : (0 : Int) ≤ (m : Int) := by omega
                obtain ⟨x, hx⟩ : ∃ x, l[m]'(by omega) = x := ⟨_, rfl⟩
                obtain ⟨bA, oA, e0, r0, r1, r2, r3, r4⟩ := (H0.out.below hm.bel).item m (by omega) x hx
                subst e0
                have HML := Lib.hid (show m < l.length by omega)
                have HX4 := Lib.hid hx
                have hS := itc_one x wr
                have hA : Below wr.heap.size wr (wr.alloc (.cells #[.int .i64 x.d.1, .int .u64 (x.d.2 : Int), .string x.t, .string x.v, .bool x.g] 48)) := (Below.refl _ _).alloc (Nat.le_refl _) _
                have HA := Lib.hid (fsee_any ((hm.below hA).set (pb, D4, G4) (by simp)).1 _ [x] hS (by have := HI4.out.2.2.2.1; first | omega | (simp; omega)) (by have := HI4.out.2.2.2.2; first | omega | (simp; omega)))
                replace hm := hm.below hA
                clear hS hA hx he4
                go_wp2_with fail
                refine HA.out.mono ?_
                rintro e x5 ⟨bs5, cs5, rfl, ⟨⟨y, hy2, hf⟩, _⟩ | ⟨_, _, hcs5, ⟨G5, hs5, hm5⟩, hk5⟩⟩
                · exact absurd hf (by rw [List.mem_singleton.1 hy2, HIT.out x (by rw [← HX4.out]; exact List.getElem_mem HML.out)]; decide)
                subst hcs5
                replace hm : Kn w x5 [(pa, Da, Ga), (pb, (seeDs D4 [x]).1, G5)] [] [] := Kn.op (A := [(pa, Da, Ga)]) (B := []) hm hk5 hs5 hm5
                clear HA hs5 hm5 hk5 r0 r1 r2 r3 r4
                go_wp2
                refine ⟨⟨m, (m : Int) - 1, (seeDs D4 [x]).1, x :: s4, G5, by go_num, by omega, by have := HML.out; omega, hm, ?_⟩, by have := HML.out; first | (simp [intOf]; done) | (simp [intOf]; omega)⟩
                obtain ⟨i1, i2, i3, i4', i5'⟩ := HI4.out
                have hxl : x ∈ l := by rw [← HX4.out]; exact List.getElem_mem HML.out
                have := seeDs_one i1.good (HIT.out x hxl)
                refine ⟨i1.step HONE.out i2 hxl (HIT.out x hxl), fun y hy => ?_, fun j hj hmj => ?_, by omega, by omega⟩
                · rcases List.mem_cons.1 hy with rfl | hy
                  · exact hxl
                  · exact i2 y hy
                · rcases Nat.lt_or_ge m j with h3 | h3
                  · exact List.mem_cons_of_mem _ (i3 j hj h3)
                  · obtain rfl : j = m := by omega
                    rw [HX4.out]; exact List.mem_cons_self
end Go.Proofs.YtldfaaahmpncbaaGreat

/-
  OrsetBoth: its walk.
-/
import Derived.Test.YtldfaaahmpncbaaGreatOrtAD
namespace Go.Proofs.YtldfaaahmpncbaaGreat
open Go.RowKit Go.Maps
open CtxM
set_option linter.unusedVariables false
set_option linter.unusedSimpArgs false
set_option maxRecDepth 20000
set_option maxHeartbeats 4000000 in
theorem both_bad (t u t2 u2 : ByteArray) (heard : Bool) (r : Int) (w : World) (hbad : ¬ ((nameB t && nameB u) = true ∧ (nameB t2 && nameB u2) = true ∧ 3 ≤ r ∧ r ≤ 16)) :
    Calls Tryz.prog 8 #[.agg #[.string t, .string u], .agg #[.string t2, .string u2], .bool heard, .int .i64 r] w fun e w' => e = .returned (.bool true) ∧ Below w.heap.size w w' := by
  obtain ⟨nb, hnb, hN⟩ : ∃ nb : ByteArray → Bool, nb = nameB ∧ ∀ s W, Calls Tryz.prog 21 #[.string s] W fun e w' => e = .returned (.bool (nb s)) ∧ w' = W := ⟨nameB, rfl, rname_any⟩
  rw [← hnb] at hbad
  clear hnb
  have hbw : Below w.heap.size w ((w.alloc (.cells #[.string t, .string u] 39)).alloc (.cells #[.string t2, .string u2] 39)) := ((Below.refl _ _).alloc (Nat.le_refl _) _).alloc (by simp) _
  have HK := Lib.hid (fun W => oknown_any W)
  go_enter Tryz.func8, Tryz.ntmps8
  cases e1 : nb t
  · clear hbad
    go_wp2_with (first | (go_at_call 21; refine (hN _ _).mono ?_; rintro e' w' ⟨rfl, rfl⟩; try rw [e1]))
    refine (oknown_any _).mono ?_
    rintro e w' ⟨rfl, hb⟩
    go_wp2
    go_ret
    exact ⟨rfl, hbw.trans (hb.mono hbw.size)⟩
  · skip
    cases e2 : nb u
    · clear hbad
      go_wp2_with (first | (go_at_call 21; refine (hN _ _).mono ?_; rintro e' w' ⟨rfl, rfl⟩; try rw [e1]; try rw [e2]))
      refine (oknown_any _).mono ?_
      rintro e w' ⟨rfl, hb⟩
      go_wp2
      go_ret
      exact ⟨rfl, hbw.trans (hb.mono hbw.size)⟩
    · skip
      cases e3 : nb t2
      · clear hbad
        go_wp2_with (first | (go_at_call 21; refine (hN _ _).mono ?_; rintro e' w' ⟨rfl, rfl⟩; try rw [e1]; try rw [e2]; try rw [e3]))
        refine (oknown_any _).mono ?_
        rintro e w' ⟨rfl, hb⟩
        go_wp2
        go_ret
        exact ⟨rfl, hbw.trans (hb.mono hbw.size)⟩
      · skip
        cases e4 : nb u2
        · clear hbad
          go_wp2_with (first | (go_at_call 21; refine (hN _ _).mono ?_; rintro e' w' ⟨rfl, rfl⟩; try rw [e1]; try rw [e2]; try rw [e3]; try rw [e4]))
          refine (oknown_any _).mono ?_
          rintro e w' ⟨rfl, hb⟩
          go_wp2
          go_ret
          exact ⟨rfl, hbw.trans (hb.mono hbw.size)⟩
        · skip
          rw [e1, e2, e3, e4] at hbad
          by_cases h1 : r < 3
          · have k1 : decide (r < 3) = true := decide_eq_true h1
            clear hbad
            go_wp2_with (first | (go_at_call 21; refine (hN _ _).mono ?_; rintro e' w' ⟨rfl, rfl⟩; try rw [e1]; try rw [e2]; try rw [e3]; try rw [e4]))
            refine (oknown_any _).mono ?_
            rintro e w' ⟨rfl, hb⟩
            go_wp2
            go_ret
            exact ⟨rfl, hbw.trans (hb.mono hbw.size)⟩
          · have h2 : 16 < r := by
              have hb := hbad
              simp at hb
              omega
            have k1 : decide (r < 3) = false := decide_eq_false h1
            have k2 : decide (16 < r) = true := decide_eq_true h2
            clear hbad
            go_wp2_with (first | (go_at_call 21; refine (hN _ _).mono ?_; rintro e' w' ⟨rfl, rfl⟩; try rw [e1]; try rw [e2]; try rw [e3]; try rw [e4]))
            refine (oknown_any _).mono ?_
            rintro e w' ⟨rfl, hb⟩
            go_wp2
            go_ret
            exact ⟨rfl, hbw.trans (hb.mono hbw.size)⟩
set_option maxHeartbeats 8000000 in
theorem both_good (t u t2 u2 : ByteArray) (heard : Bool) (r : Int) (w : World) (hn1 : (nameB t && nameB u) = true) (hn2 : (nameB t2 && nameB u2) = true) (h1 : 3 ≤ r) (h2 : r ≤ 16) :
    Calls Tryz.prog 8 #[.agg #[.string t, .string u], .agg #[.string t2, .string u2], .bool heard, .int .i64 r] w fun e w' => e = .returned (.bool true) ∧ Below w.heap.size w w' := by
  obtain ⟨nb, hnb, hN⟩ : ∃ nb : ByteArray → Bool, nb = nameB ∧ ∀ s W, Calls Tryz.prog 21 #[.string s] W fun e w' => e = .returned (.bool (nb s)) ∧ w' = W := ⟨nameB, rfl, rname_any⟩
  have hn1' := hn1
  have hn2' := hn2
  rw [← hnb, Bool.and_eq_true] at hn1' hn2'
  obtain ⟨e1, e2⟩ := hn1'
  obtain ⟨e3, e4⟩ := hn2'
  clear hnb
  have HN1 := Lib.hid hn1
  have HN2 := Lib.hid hn2
  clear hn1 hn2
  have hm := ((Kn.start w).newBox 39 #[.string t, .string u]).newBox 39 #[.string t2, .string u2]
  simp only [World.size_alloc] at hm
  have k1 : decide (r < 3) = false := decide_eq_false (by omega)
  have k2 : decide (16 < r) = false := decide_eq_false (by omega)
  go_enter Tryz.func8, Tryz.ntmps8
  go_upto_region 1 with fail
  change Code.wp _ _ _ _ ((w.alloc (.cells #[.string t, .string u] 39)).alloc (.cells #[.string t2, .string u2] 39))
  generalize (w.alloc (.cells #[.string t, .string u] 39)).alloc (.cells #[.string t2, .string u2] 39) = w1 at hm ⊢
  obtain ⟨zo, hzo⟩ : ∃ z, w.heap.size + 1 = z := ⟨_, rfl⟩
  obtain ⟨zk, hzk⟩ : ∃ z, w.heap.size = z := ⟨_, rfl⟩
  rw [hzo] at hm
  rw [hzo]
  replace hm : Kn w w1 [] [(zo, 39, #[.string t2, .string u2]), (zk, 39, #[.string t, .string u])] [] := by rw [← hzk]; exact hm
  rw [hzk]
  clear hzo hzk
  have c_k0 : w1.cell? ⟨zk, 0, none⟩ = some (.string t) := by rw [(hm.box (zk, 39, #[.string t, .string u]) (by simp)).1.cell]; rfl
  have c_k1 : w1.cell? ⟨zk, 1, none⟩ = some (.string u) := by rw [(hm.box (zk, 39, #[.string t, .string u]) (by simp)).1.cell]; rfl
  have c_o0 : w1.cell? ⟨zo, 0, none⟩ = some (.string t2) := by rw [(hm.box (zo, 39, #[.string t2, .string u2]) (by simp)).1.cell]; rfl
  have c_o1 : w1.cell? ⟨zo, 1, none⟩ = some (.string u2) := by rw [(hm.box (zo, 39, #[.string t2, .string u2]) (by simp)).1.cell]; rfl
  go_wp2_with (first | (go_at_call 21; refine (hN _ _).mono ?_; rintro e' w' ⟨rfl, rfl⟩; try rw [e1]; try rw [e2]; try rw [e3]; try rw [e4]))
  refine (fnew_any _).mono ?_
  rintro e w2 ⟨pa, Fa, rfl, ho, hlo, hb⟩
  have hm2 : Kn w w2 [(pa, kn0, Fa)] [(zo, 39, #[.string t2, .string u2]), (zk, 39, #[.string t, .string u])] [] := hm.addSet hb ho hlo
  clear c_k0 c_k1 c_o0 c_o1 hm ho hlo hb e1 e2 e3 e4 k1 k2 hN
  go_wp2_with fail
  refine (fnew_any _).mono ?_
  rintro e w3 ⟨pb, Fb, rfl, ho, hlo, hb⟩
  have hm : Kn w w3 [(pa, kn0, Fa), (pb, kn0, Fb)] [(zo, 39, #[.string t2, .string u2]), (zk, 39, #[.string t, .string u])] [] := hm2.addSet hb ho hlo
  clear hm2 ho hlo hb
  have hok1 := Lib.hid (show ∀ i ∈ [bX 1 (t, u)], itB i = true from fun i hi => by rw [List.mem_singleton] at hi; subst hi; exact itB_live (by decide) HN1.out)
  have hok2 := Lib.hid (show ∀ i ∈ [bX 2 (t, u), bG 1], itB i = true from fun i hi => by
    simp only [List.mem_cons, List.not_mem_nil, or_false] at hi
    rcases hi with rfl | rfl
    · exact itB_live (by decide) HN1.out
    · exact goneI_ok (by decide))
  have hokg1 := Lib.hid (show ∀ i ∈ [bG 1], itB i = true from fun i hi => by rw [List.mem_singleton] at hi; subst hi; exact goneI_ok (by decide))
  have hokg2 := Lib.hid (show ∀ i ∈ [bG 2], itB i = true from fun i hi => by rw [List.mem_singleton] at hi; subst hi; exact goneI_ok (by decide))
  have hmr : May (r, 1) := ⟨by show (1 : Int) ≤ r; omega, h2, by show 1 ≤ 1; decide, by show 1 ≤ top; unfold top; omega⟩
  have hoky := Lib.hid (show ∀ i ∈ [bY r (t2, u2)], itB i = true from fun i hi => by rw [List.mem_singleton] at hi; subst hi; exact itB_live hmr HN2.out)
  have HMR := Lib.hid (And.intro hmr (And.intro h1 h2))
  clear hmr h1 h2
  have c_k0 : w3.cell? ⟨zk, 0, none⟩ = some (.string t) := by rw [(hm.box (zk, 39, #[.string t, .string u]) (by simp)).1.cell]; rfl
  have c_k1 : w3.cell? ⟨zk, 1, none⟩ = some (.string u) := by rw [(hm.box (zk, 39, #[.string t, .string u]) (by simp)).1.cell]; rfl
  have HA := Lib.hid (fadd_any (hm.set (pa, kn0, Fa) (by simp)).1 t u (1, 1) (by unfold addB; rw [itB_live (by decide) HN1.out, decide_eq_false (fun h => (both_in0 1).1 h)]; rfl) (by simp [kn0]) (by simp [kn0]))
  have hz := hm.bel.size
  go_wp2_with fail
  refine HA.out.mono ?_
  rintro e w4 ⟨vl, rfl, hown, ⟨F1, hs1, hm1⟩, hk1⟩
  replace hown : OwnK kIt w4 _ vl [bX 1 (t, u)] := hown
  replace hs1 : OsF w4 pa ⟨(bV 1, []), [bX 1 (t, u)]⟩ F1 := by rw [← both_1]; exact hs1
  replace hm : Kn w w4 [(pa, ⟨(bV 1, []), [bX 1 (t, u)]⟩, F1), (pb, kn0, Fb)] [(zo, 39, #[.string t2, .string u2]), (zk, 39, #[.string t, .string u])] [(vl, [bX 1 (t, u)])] := (Kn.op (A := []) (B := [(pb, kn0, Fb)]) hm hk1 hs1 hm1).addRow hown hz
  clear c_k0 c_k1 HA hown hs1 hm1 hk1 hz
  have HA := Lib.hid (fsee_any (hm.set (pb, kn0, Fb) (by simp)).1 _ [bX 1 (t, u)] (hm.row (vl, [bX 1 (t, u)]) (by simp)).slk (by simp [kn0]) (by simp [kn0]))
  go_wp2_with fail
  refine HA.out.mono ?_
  rintro e w5 ⟨bs, cs, rfl, ⟨⟨i, hi, hf⟩, _⟩ | ⟨_, _, _, ⟨F2, hs1, hm1⟩, hk1⟩⟩
  · exact absurd hf (by rw [hok1.out i hi]; decide)
  replace hs1 : OsF w5 pb ⟨(bV 1, []), [bX 1 (t, u)]⟩ F2 := by rw [← both_1]; exact hs1
  replace hm : Kn w w5 [(pa, ⟨(bV 1, []), [bX 1 (t, u)]⟩, F1), (pb, ⟨(bV 1, []), [bX 1 (t, u)]⟩, F2)] [(zo, 39, #[.string t2, .string u2]), (zk, 39, #[.string t, .string u])] [(vl, [bX 1 (t, u)])] := Kn.op (A := [(pa, ⟨(bV 1, []), [bX 1 (t, u)]⟩, F1)]) (B := []) hm hk1 hs1 hm1
  clear HA hs1 hm1 hk1
  have c_k0 : w5.cell? ⟨zk, 0, none⟩ = some (.string t) := by rw [(hm.box (zk, 39, #[.string t, .string u]) (by simp)).1.cell]; rfl
  have c_k1 : w5.cell? ⟨zk, 1, none⟩ = some (.string u) := by rw [(hm.box (zk, 39, #[.string t, .string u]) (by simp)).1.cell]; rfl
  have HA := Lib.hid (fadd_any (hm.set (pa, ⟨(bV 1, []), [bX 1 (t, u)]⟩, F1) (by simp)).1 t u (1, 2) (by unfold addB; rw [itB_live (by decide) HN1.out, decide_eq_false both_i2]; rfl) (by simp [kn0]) (by simp [kn0]))
  have hz := hm.bel.size
  go_wp2_with fail
  refine HA.out.mono ?_
  rintro e w6 ⟨vm, rfl, hown, ⟨F3, hs1, hm1⟩, hk1⟩
  rw [both_g1 (t, u)] at hown hs1
  replace hown : OwnK kIt w6 _ vm [bX 2 (t, u), bG 1] := hown
  replace hs1 : OsF w6 pa ⟨(bV 2, []), [bG 1, bX 2 (t, u)]⟩ F3 := by rw [← both_2]; exact hs1
  replace hm : Kn w w6 [(pa, ⟨(bV 2, []), [bG 1, bX 2 (t, u)]⟩, F3), (pb, ⟨(bV 1, []), [bX 1 (t, u)]⟩, F2)] [(zo, 39, #[.string t2, .string u2]), (zk, 39, #[.string t, .string u])] [(vm, [bX 2 (t, u), bG 1]), (vl, [bX 1 (t, u)])] := (Kn.op (A := []) (B := [(pb, ⟨(bV 1, []), [bX 1 (t, u)]⟩, F2)]) hm hk1 hs1 hm1).addRow hown hz
  clear c_k0 c_k1 HA hown hs1 hm1 hk1 hz
  cases heard
  · skip
    have c_k0 : w6.cell? ⟨zk, 0, none⟩ = some (.string t) := by rw [(hm.box (zk, 39, #[.string t, .string u]) (by simp)).1.cell]; rfl
    have c_k1 : w6.cell? ⟨zk, 1, none⟩ = some (.string u) := by rw [(hm.box (zk, 39, #[.string t, .string u]) (by simp)).1.cell]; rfl
    have HA := Lib.hid (fremove_any (hm.set (pb, ⟨(bV 1, []), [bX 1 (t, u)]⟩, F2) (by simp)).1 t u HN1.out (by simp) (by simp))
    have hz := hm.bel.size
    go_wp2_with fail
    refine HA.out.mono ?_
    rintro e w7 ⟨vn, rfl, hown, ⟨F4, hs1, hm1⟩, hk1⟩
    rw [both_g1 (t, u)] at hown hs1
    replace hown : OwnK kIt w7 _ vn [bG 1] := hown
    replace hs1 : OsF w7 pb ⟨(bV 1, []), [bG 1]⟩ F4 := by rw [← both_3n]; exact hs1
    replace hm : Kn w w7 [(pa, ⟨(bV 2, []), [bG 1, bX 2 (t, u)]⟩, F3), (pb, ⟨(bV 1, []), [bG 1]⟩, F4)] [(zo, 39, #[.string t2, .string u2]), (zk, 39, #[.string t, .string u])] [(vn, [bG 1]), (vm, [bX 2 (t, u), bG 1]), (vl, [bX 1 (t, u)])] := (Kn.op (A := [(pa, ⟨(bV 2, []), [bG 1, bX 2 (t, u)]⟩, F3)]) (B := []) hm hk1 hs1 hm1).addRow hown hz
    clear c_k0 c_k1 HA hown hs1 hm1 hk1 hz
    have c_o0 : w7.cell? ⟨zo, 0, none⟩ = some (.string t2) := by rw [(hm.box (zo, 39, #[.string t2, .string u2]) (by simp)).1.cell]; rfl
    have c_o1 : w7.cell? ⟨zo, 1, none⟩ = some (.string u2) := by rw [(hm.box (zo, 39, #[.string t2, .string u2]) (by simp)).1.cell]; rfl
    have HA := Lib.hid (fadd_any (hm.set (pb, ⟨(bV 1, []), [bG 1]⟩, F4) (by simp)).1 t2 u2 (r, 1) (by unfold addB; rw [itB_live HMR.out.1 HN2.out, decide_eq_false (both_ir1 HMR.out.2.1 HMR.out.2.2)]; rfl) (by simp [kn0]) (by simp [kn0]))
    have hz := hm.bel.size
    go_wp2_with fail
    refine HA.out.mono ?_
    rintro e w8 ⟨vx, rfl, hown, ⟨F5, hs1, hm1⟩, hk1⟩
    rw [both_gn (t2, u2)] at hown hs1
    replace hown : OwnK kIt w8 _ vx [bY r (t2, u2)] := hown
    replace hs1 : OsF w8 pb ⟨(bW 1 r, []), [bG 1, bY r (t2, u2)]⟩ F5 := by rw [← both_4n _ HMR.out.2.1 HMR.out.2.2]; exact hs1
    replace hm : Kn w w8 [(pa, ⟨(bV 2, []), [bG 1, bX 2 (t, u)]⟩, F3), (pb, ⟨(bW 1 r, []), [bG 1, bY r (t2, u2)]⟩, F5)] [(zo, 39, #[.string t2, .string u2]), (zk, 39, #[.string t, .string u])] [(vx, [bY r (t2, u2)]), (vn, [bG 1]), (vm, [bX 2 (t, u), bG 1]), (vl, [bX 1 (t, u)])] := (Kn.op (A := [(pa, ⟨(bV 2, []), [bG 1, bX 2 (t, u)]⟩, F3)]) (B := []) hm hk1 hs1 hm1).addRow hown hz
    clear c_o0 c_o1 HA hown hs1 hm1 hk1 hz
    have HA := Lib.hid (fsee_any (hm.set (pa, ⟨(bV 2, []), [bG 1, bX 2 (t, u)]⟩, F3) (by simp)).1 _ [bG 1] (hm.row (vn, [bG 1]) (by simp)).slk (by simp [kn0]) (by simp [kn0]))
    go_wp2_with fail
    refine HA.out.mono ?_
    rintro e w9 ⟨bs, cs, rfl, ⟨⟨i, hi, hf⟩, _⟩ | ⟨_, _, _, ⟨F6, hs1, hm1⟩, hk1⟩⟩
    · exact absurd hf (by rw [hokg1.out i hi]; decide)
    replace hs1 : OsF w9 pa ⟨(bV 2, []), [bG 1, bX 2 (t, u)]⟩ F6 := by rw [← both_3a]; exact hs1
    replace hm : Kn w w9 [(pa, ⟨(bV 2, []), [bG 1, bX 2 (t, u)]⟩, F6), (pb, ⟨(bW 1 r, []), [bG 1, bY r (t2, u2)]⟩, F5)] [(zo, 39, #[.string t2, .string u2]), (zk, 39, #[.string t, .string u])] [(vx, [bY r (t2, u2)]), (vn, [bG 1]), (vm, [bX 2 (t, u), bG 1]), (vl, [bX 1 (t, u)])] := Kn.op (A := []) (B := [(pb, ⟨(bW 1 r, []), [bG 1, bY r (t2, u2)]⟩, F5)]) hm hk1 hs1 hm1
    clear HA hs1 hm1 hk1
    have HA := Lib.hid (fsee_any (hm.set (pa, ⟨(bV 2, []), [bG 1, bX 2 (t, u)]⟩, F6) (by simp)).1 _ [bY r (t2, u2)] (hm.row (vx, [bY r (t2, u2)]) (by simp)).slk (by simp [kn0]) (by simp [kn0]))
    go_wp2_with fail
    refine HA.out.mono ?_
    rintro e w10 ⟨bs, cs, rfl, ⟨⟨i, hi, hf⟩, _⟩ | ⟨_, _, _, ⟨F7, hs1, hm1⟩, hk1⟩⟩
    · exact absurd hf (by rw [hoky.out i hi]; decide)
    replace hs1 : OsF w10 pa ⟨(bW 2 r, []), [bG 1, bX 2 (t, u), bY r (t2, u2)]⟩ F7 := by rw [← both_4a _ _ HMR.out.2.1 HMR.out.2.2]; exact hs1
    replace hm : Kn w w10 [(pa, ⟨(bW 2 r, []), [bG 1, bX 2 (t, u), bY r (t2, u2)]⟩, F7), (pb, ⟨(bW 1 r, []), [bG 1, bY r (t2, u2)]⟩, F5)] [(zo, 39, #[.string t2, .string u2]), (zk, 39, #[.string t, .string u])] [(vx, [bY r (t2, u2)]), (vn, [bG 1]), (vm, [bX 2 (t, u), bG 1]), (vl, [bX 1 (t, u)])] := Kn.op (A := []) (B := [(pb, ⟨(bW 1 r, []), [bG 1, bY r (t2, u2)]⟩, F5)]) hm hk1 hs1 hm1
    clear HA hs1 hm1 hk1
    have HA := Lib.hid (fsee_any (hm.set (pb, ⟨(bW 1 r, []), [bG 1, bY r (t2, u2)]⟩, F5) (by simp)).1 _ [bX 1 (t, u)] (hm.row (vl, [bX 1 (t, u)]) (by simp)).slk (by simp [kn0]) (by simp [kn0]))
    go_wp2_with fail
    refine HA.out.mono ?_
    rintro e w11 ⟨bs, cs, rfl, ⟨⟨i, hi, hf⟩, _⟩ | ⟨_, _, _, ⟨F8, hs1, hm1⟩, hk1⟩⟩
    · exact absurd hf (by rw [hok1.out i hi]; decide)
    replace hs1 : OsF w11 pb ⟨(bW 1 r, []), [bG 1, bY r (t2, u2)]⟩ F8 := by rw [← both_5n _ _ HMR.out.2.1 HMR.out.2.2]; exact hs1
    replace hm : Kn w w11 [(pa, ⟨(bW 2 r, []), [bG 1, bX 2 (t, u), bY r (t2, u2)]⟩, F7), (pb, ⟨(bW 1 r, []), [bG 1, bY r (t2, u2)]⟩, F8)] [(zo, 39, #[.string t2, .string u2]), (zk, 39, #[.string t, .string u])] [(vx, [bY r (t2, u2)]), (vn, [bG 1]), (vm, [bX 2 (t, u), bG 1]), (vl, [bX 1 (t, u)])] := Kn.op (A := [(pa, ⟨(bW 2 r, []), [bG 1, bX 2 (t, u), bY r (t2, u2)]⟩, F7)]) (B := []) hm hk1 hs1 hm1
    clear HA hs1 hm1 hk1
    have HA := Lib.hid (fsee_any (hm.set (pb, ⟨(bW 1 r, []), [bG 1, bY r (t2, u2)]⟩, F8) (by simp)).1 _ [bX 2 (t, u), bG 1] (hm.row (vm, [bX 2 (t, u), bG 1]) (by simp)).slk (by simp [kn0]) (by simp [kn0]))
    go_wp2_with fail
    refine HA.out.mono ?_
    rintro e w12 ⟨bs, cs, rfl, ⟨⟨i, hi, hf⟩, _⟩ | ⟨_, _, _, ⟨F9, hs1, hm1⟩, hk1⟩⟩
    · exact absurd hf (by rw [hok2.out i hi]; decide)
    replace hs1 : OsF w12 pb ⟨(bW 2 r, []), [bG 1, bX 2 (t, u), bY r (t2, u2)]⟩ F9 := by rw [← both_6n _ _ HMR.out.2.1 HMR.out.2.2]; exact hs1
    replace hm : Kn w w12 [(pa, ⟨(bW 2 r, []), [bG 1, bX 2 (t, u), bY r (t2, u2)]⟩, F7), (pb, ⟨(bW 2 r, []), [bG 1, bX 2 (t, u), bY r (t2, u2)]⟩, F9)] [(zo, 39, #[.string t2, .string u2]), (zk, 39, #[.string t, .string u])] [(vx, [bY r (t2, u2)]), (vn, [bG 1]), (vm, [bX 2 (t, u), bG 1]), (vl, [bX 1 (t, u)])] := Kn.op (A := [(pa, ⟨(bW 2 r, []), [bG 1, bX 2 (t, u), bY r (t2, u2)]⟩, F7)]) (B := []) hm hk1 hs1 hm1
    clear HA hs1 hm1 hk1
    have c_k0 : w12.cell? ⟨zk, 0, none⟩ = some (.string t) := by rw [(hm.box (zk, 39, #[.string t, .string u]) (by simp)).1.cell]; rfl
    have c_k1 : w12.cell? ⟨zk, 1, none⟩ = some (.string u) := by rw [(hm.box (zk, 39, #[.string t, .string u]) (by simp)).1.cell]; rfl
    have c_o0 : w12.cell? ⟨zo, 0, none⟩ = some (.string t2) := by rw [(hm.box (zo, 39, #[.string t2, .string u2]) (by simp)).1.cell]; rfl
    have c_o1 : w12.cell? ⟨zo, 1, none⟩ = some (.string u2) := by rw [(hm.box (zo, 39, #[.string t2, .string u2]) (by simp)).1.cell]; rfl
    have hoB : hasB (⟨(bW 2 r, []), [bG 1, bX 2 (t, u), bY r (t2, u2)]⟩ : St).I (t2, u2) = true := both_on _ _
    have hkB : hasB (⟨(bW 2 r, []), [bG 1, bX 2 (t, u), bY r (t2, u2)]⟩ : St).I (t, u) = true := both_hn _ _
    have HA := Lib.hid (fhas_any (hm.set (pa, ⟨(bW 2 r, []), [bG 1, bX 2 (t, u), bY r (t2, u2)]⟩, F7) (by simp)).1 t u)
    rw [hkB] at HA
    go_wp2_with fail
    refine HA.out.mono ?_
    rintro e w13 ⟨rfl, hb⟩
    replace hm := hm.below hb
    clear c_k0 c_k1 c_o0 c_o1 HA hb
    have c_k0 : w13.cell? ⟨zk, 0, none⟩ = some (.string t) := by rw [(hm.box (zk, 39, #[.string t, .string u]) (by simp)).1.cell]; rfl
    have c_k1 : w13.cell? ⟨zk, 1, none⟩ = some (.string u) := by rw [(hm.box (zk, 39, #[.string t, .string u]) (by simp)).1.cell]; rfl
    have c_o0 : w13.cell? ⟨zo, 0, none⟩ = some (.string t2) := by rw [(hm.box (zo, 39, #[.string t2, .string u2]) (by simp)).1.cell]; rfl
    have c_o1 : w13.cell? ⟨zo, 1, none⟩ = some (.string u2) := by rw [(hm.box (zo, 39, #[.string t2, .string u2]) (by simp)).1.cell]; rfl
    have HA := Lib.hid (fhas_any (hm.set (pb, ⟨(bW 2 r, []), [bG 1, bX 2 (t, u), bY r (t2, u2)]⟩, F9) (by simp)).1 t u)
    rw [hkB] at HA
    go_wp2_with fail
    refine HA.out.mono ?_
    rintro e w14 ⟨rfl, hb⟩
    replace hm := hm.below hb
    clear c_k0 c_k1 c_o0 c_o1 HA hb
    have c_k0 : w14.cell? ⟨zk, 0, none⟩ = some (.string t) := by rw [(hm.box (zk, 39, #[.string t, .string u]) (by simp)).1.cell]; rfl
    have c_k1 : w14.cell? ⟨zk, 1, none⟩ = some (.string u) := by rw [(hm.box (zk, 39, #[.string t, .string u]) (by simp)).1.cell]; rfl
    have c_o0 : w14.cell? ⟨zo, 0, none⟩ = some (.string t2) := by rw [(hm.box (zo, 39, #[.string t2, .string u2]) (by simp)).1.cell]; rfl
    have c_o1 : w14.cell? ⟨zo, 1, none⟩ = some (.string u2) := by rw [(hm.box (zo, 39, #[.string t2, .string u2]) (by simp)).1.cell]; rfl
    have HA := Lib.hid (fhas_any (hm.set (pa, ⟨(bW 2 r, []), [bG 1, bX 2 (t, u), bY r (t2, u2)]⟩, F7) (by simp)).1 t2 u2)
    rw [hoB] at HA
    go_wp2_with fail
    refine HA.out.mono ?_
    rintro e w15 ⟨rfl, hb⟩
    replace hm := hm.below hb
    clear c_k0 c_k1 c_o0 c_o1 HA hb
    have c_k0 : w15.cell? ⟨zk, 0, none⟩ = some (.string t) := by rw [(hm.box (zk, 39, #[.string t, .string u]) (by simp)).1.cell]; rfl
    have c_k1 : w15.cell? ⟨zk, 1, none⟩ = some (.string u) := by rw [(hm.box (zk, 39, #[.string t, .string u]) (by simp)).1.cell]; rfl
    have c_o0 : w15.cell? ⟨zo, 0, none⟩ = some (.string t2) := by rw [(hm.box (zo, 39, #[.string t2, .string u2]) (by simp)).1.cell]; rfl
    have c_o1 : w15.cell? ⟨zo, 1, none⟩ = some (.string u2) := by rw [(hm.box (zo, 39, #[.string t2, .string u2]) (by simp)).1.cell]; rfl
    have HA := Lib.hid (fhas_any (hm.set (pb, ⟨(bW 2 r, []), [bG 1, bX 2 (t, u), bY r (t2, u2)]⟩, F9) (by simp)).1 t2 u2)
    rw [hoB] at HA
    go_wp2_with fail
    refine HA.out.mono ?_
    rintro e w16 ⟨rfl, hb⟩
    replace hm := hm.below hb
    clear c_k0 c_k1 c_o0 c_o1 HA hb
    have HA := Lib.hid (fctx_any (hm.set (pa, ⟨(bW 2 r, []), [bG 1, bX 2 (t, u), bY r (t2, u2)]⟩, F7) (by simp)).1 (by simp))
    go_wp2_with fail
    refine HA.out.mono ?_
    rintro e w17 ⟨ga, va, rfl, hcxa, _, hb⟩
    replace hm := hm.below hb
    clear HA hb
    have HA := Lib.hid (fctx_any (hm.set (pb, ⟨(bW 2 r, []), [bG 1, bX 2 (t, u), bY r (t2, u2)]⟩, F9) (by simp)).1 (by simp))
    go_wp2_with fail
    refine HA.out.mono ?_
    rintro e w18 ⟨gb, vb, rfl, hcxb, _, hb⟩
    replace hm := hm.below hb
    replace hcxa := hcxa.below hb
    clear HA hb
    have HA := Lib.hid (same_any ga gb va vb _ _ _ _ w18 hcxa hcxb (by simp) (by simp))
    rw [decide_eq_true ⟨rfl, rfl⟩] at HA
    clear hcxa hcxb
    go_wp2_with fail
    refine HA.out.mono ?_
    rintro e w19 ⟨rfl, hb⟩
    replace hm := hm.below hb
    clear HA hb
    have HA := Lib.hid (fkeys_any (hm.set (pa, ⟨(bW 2 r, []), [bG 1, bX 2 (t, u), bY r (t2, u2)]⟩, F7) (by simp)).1 (by simp))
    go_wp2_with fail
    refine HA.out.mono ?_
    rintro e w20 ⟨ya, Ma, rfl, hka, hoa, hla, hb⟩
    replace hm := hm.below hb
    clear HA hb
    have HA := Lib.hid (fkeys_any (hm.set (pb, ⟨(bW 2 r, []), [bG 1, bX 2 (t, u), bY r (t2, u2)]⟩, F9) (by simp)).1 (by simp))
    go_wp2_with fail
    refine HA.out.mono ?_
    rintro e w21 ⟨yb, Mb, rfl, hkb, hob, hlb, hb⟩
    replace hm := hm.below hb
    replace hoa := hoa.below hb
    clear HA hb
    have hab : Ma = Mb := hka.uniq hkb
    have HA := Lib.hid (sameKeys_any ya yb Ma Mb w21 (own_ky hoa).sd (own_ky hob).sd (by simp at hla; omega) (by simp at hlb; omega))
    rw [decide_eq_true hab] at HA
    clear hab hka hkb hla hlb hoa hob
    go_wp2_with fail
    refine HA.out.mono ?_
    rintro e w22 ⟨rfl, nd, hnd⟩
    have hb : Below w21.heap.size w21 w22 := by rw [hnd]; exact below_drewN (Below.refl _ _) nd
    replace hm := hm.below hb
    clear HA hb hnd
    go_wp2_with fail
    refine (oknown_any _).mono ?_
    rintro e w23 ⟨rfl, hb⟩
    have hfin := hm.bel.trans (hb.mono hm.bel.size)
    clear hm hb
    go_wp2
    go_ret
    exact ⟨rfl, hfin⟩
  · skip
    have HA := Lib.hid (fsee_any (hm.set (pb, ⟨(bV 1, []), [bX 1 (t, u)]⟩, F2) (by simp)).1 _ [bX 2 (t, u), bG 1] (hm.row (vm, [bX 2 (t, u), bG 1]) (by simp)).slk (by simp [kn0]) (by simp [kn0]))
    go_wp2_with fail
    refine HA.out.mono ?_
    rintro e w7 ⟨bs, cs, rfl, ⟨⟨i, hi, hf⟩, _⟩ | ⟨_, _, _, ⟨F4, hs1, hm1⟩, hk1⟩⟩
    · exact absurd hf (by rw [hok2.out i hi]; decide)
    replace hs1 : OsF w7 pb ⟨(bV 2, []), [bG 1, bX 2 (t, u)]⟩ F4 := by rw [← both_2]; exact hs1
    replace hm : Kn w w7 [(pa, ⟨(bV 2, []), [bG 1, bX 2 (t, u)]⟩, F3), (pb, ⟨(bV 2, []), [bG 1, bX 2 (t, u)]⟩, F4)] [(zo, 39, #[.string t2, .string u2]), (zk, 39, #[.string t, .string u])] [(vm, [bX 2 (t, u), bG 1]), (vl, [bX 1 (t, u)])] := Kn.op (A := [(pa, ⟨(bV 2, []), [bG 1, bX 2 (t, u)]⟩, F3)]) (B := []) hm hk1 hs1 hm1
    clear HA hs1 hm1 hk1
    have c_k0 : w7.cell? ⟨zk, 0, none⟩ = some (.string t) := by rw [(hm.box (zk, 39, #[.string t, .string u]) (by simp)).1.cell]; rfl
    have c_k1 : w7.cell? ⟨zk, 1, none⟩ = some (.string u) := by rw [(hm.box (zk, 39, #[.string t, .string u]) (by simp)).1.cell]; rfl
    have HA := Lib.hid (fremove_any (hm.set (pb, ⟨(bV 2, []), [bG 1, bX 2 (t, u)]⟩, F4) (by simp)).1 t u HN1.out (by simp) (by simp))
    have hz := hm.bel.size
    go_wp2_with fail
    refine HA.out.mono ?_
    rintro e w8 ⟨vn, rfl, hown, ⟨F5, hs1, hm1⟩, hk1⟩
    rw [both_g2 (t, u)] at hown hs1
    replace hown : OwnK kIt w8 _ vn [bG 2] := hown
    replace hs1 : OsF w8 pb ⟨(bV 2, []), [bG 1, bG 2]⟩ F5 := by rw [← both_3h]; exact hs1
    replace hm : Kn w w8 [(pa, ⟨(bV 2, []), [bG 1, bX 2 (t, u)]⟩, F3), (pb, ⟨(bV 2, []), [bG 1, bG 2]⟩, F5)] [(zo, 39, #[.string t2, .string u2]), (zk, 39, #[.string t, .string u])] [(vn, [bG 2]), (vm, [bX 2 (t, u), bG 1]), (vl, [bX 1 (t, u)])] := (Kn.op (A := [(pa, ⟨(bV 2, []), [bG 1, bX 2 (t, u)]⟩, F3)]) (B := []) hm hk1 hs1 hm1).addRow hown hz
    clear c_k0 c_k1 HA hown hs1 hm1 hk1 hz
    have c_o0 : w8.cell? ⟨zo, 0, none⟩ = some (.string t2) := by rw [(hm.box (zo, 39, #[.string t2, .string u2]) (by simp)).1.cell]; rfl
    have c_o1 : w8.cell? ⟨zo, 1, none⟩ = some (.string u2) := by rw [(hm.box (zo, 39, #[.string t2, .string u2]) (by simp)).1.cell]; rfl
    have HA := Lib.hid (fadd_any (hm.set (pb, ⟨(bV 2, []), [bG 1, bG 2]⟩, F5) (by simp)).1 t2 u2 (r, 1) (by unfold addB; rw [itB_live HMR.out.1 HN2.out, decide_eq_false (both_ir2 HMR.out.2.1 HMR.out.2.2)]; rfl) (by simp [kn0]) (by simp [kn0]))
    have hz := hm.bel.size
    go_wp2_with fail
    refine HA.out.mono ?_
    rintro e w9 ⟨vx, rfl, hown, ⟨F6, hs1, hm1⟩, hk1⟩
    rw [both_gh (t2, u2)] at hown hs1
    replace hown : OwnK kIt w9 _ vx [bY r (t2, u2)] := hown
    replace hs1 : OsF w9 pb ⟨(bW 2 r, []), [bG 1, bG 2, bY r (t2, u2)]⟩ F6 := by rw [← both_4h _ HMR.out.2.1 HMR.out.2.2]; exact hs1
    replace hm : Kn w w9 [(pa, ⟨(bV 2, []), [bG 1, bX 2 (t, u)]⟩, F3), (pb, ⟨(bW 2 r, []), [bG 1, bG 2, bY r (t2, u2)]⟩, F6)] [(zo, 39, #[.string t2, .string u2]), (zk, 39, #[.string t, .string u])] [(vx, [bY r (t2, u2)]), (vn, [bG 2]), (vm, [bX 2 (t, u), bG 1]), (vl, [bX 1 (t, u)])] := (Kn.op (A := [(pa, ⟨(bV 2, []), [bG 1, bX 2 (t, u)]⟩, F3)]) (B := []) hm hk1 hs1 hm1).addRow hown hz
    clear c_o0 c_o1 HA hown hs1 hm1 hk1 hz
    have HA := Lib.hid (fsee_any (hm.set (pa, ⟨(bV 2, []), [bG 1, bX 2 (t, u)]⟩, F3) (by simp)).1 _ [bG 2] (hm.row (vn, [bG 2]) (by simp)).slk (by simp [kn0]) (by simp [kn0]))
    go_wp2_with fail
    refine HA.out.mono ?_
    rintro e w10 ⟨bs, cs, rfl, ⟨⟨i, hi, hf⟩, _⟩ | ⟨_, _, _, ⟨F7, hs1, hm1⟩, hk1⟩⟩
    · exact absurd hf (by rw [hokg2.out i hi]; decide)
    replace hs1 : OsF w10 pa ⟨(bV 2, []), [bG 1, bG 2]⟩ F7 := by rw [← both_3h]; exact hs1
    replace hm : Kn w w10 [(pa, ⟨(bV 2, []), [bG 1, bG 2]⟩, F7), (pb, ⟨(bW 2 r, []), [bG 1, bG 2, bY r (t2, u2)]⟩, F6)] [(zo, 39, #[.string t2, .string u2]), (zk, 39, #[.string t, .string u])] [(vx, [bY r (t2, u2)]), (vn, [bG 2]), (vm, [bX 2 (t, u), bG 1]), (vl, [bX 1 (t, u)])] := Kn.op (A := []) (B := [(pb, ⟨(bW 2 r, []), [bG 1, bG 2, bY r (t2, u2)]⟩, F6)]) hm hk1 hs1 hm1
    clear HA hs1 hm1 hk1
    have HA := Lib.hid (fsee_any (hm.set (pa, ⟨(bV 2, []), [bG 1, bG 2]⟩, F7) (by simp)).1 _ [bY r (t2, u2)] (hm.row (vx, [bY r (t2, u2)]) (by simp)).slk (by simp [kn0]) (by simp [kn0]))
    go_wp2_with fail
    refine HA.out.mono ?_
    rintro e w11 ⟨bs, cs, rfl, ⟨⟨i, hi, hf⟩, _⟩ | ⟨_, _, _, ⟨F8, hs1, hm1⟩, hk1⟩⟩
    · exact absurd hf (by rw [hoky.out i hi]; decide)
    replace hs1 : OsF w11 pa ⟨(bW 2 r, []), [bG 1, bG 2, bY r (t2, u2)]⟩ F8 := by rw [← both_4h _ HMR.out.2.1 HMR.out.2.2]; exact hs1
    replace hm : Kn w w11 [(pa, ⟨(bW 2 r, []), [bG 1, bG 2, bY r (t2, u2)]⟩, F8), (pb, ⟨(bW 2 r, []), [bG 1, bG 2, bY r (t2, u2)]⟩, F6)] [(zo, 39, #[.string t2, .string u2]), (zk, 39, #[.string t, .string u])] [(vx, [bY r (t2, u2)]), (vn, [bG 2]), (vm, [bX 2 (t, u), bG 1]), (vl, [bX 1 (t, u)])] := Kn.op (A := []) (B := [(pb, ⟨(bW 2 r, []), [bG 1, bG 2, bY r (t2, u2)]⟩, F6)]) hm hk1 hs1 hm1
    clear HA hs1 hm1 hk1
    have HA := Lib.hid (fsee_any (hm.set (pb, ⟨(bW 2 r, []), [bG 1, bG 2, bY r (t2, u2)]⟩, F6) (by simp)).1 _ [bX 1 (t, u)] (hm.row (vl, [bX 1 (t, u)]) (by simp)).slk (by simp [kn0]) (by simp [kn0]))
    go_wp2_with fail
    refine HA.out.mono ?_
    rintro e w12 ⟨bs, cs, rfl, ⟨⟨i, hi, hf⟩, _⟩ | ⟨_, _, _, ⟨F9, hs1, hm1⟩, hk1⟩⟩
    · exact absurd hf (by rw [hok1.out i hi]; decide)
    replace hs1 : OsF w12 pb ⟨(bW 2 r, []), [bG 1, bG 2, bY r (t2, u2)]⟩ F9 := by rw [← both_5h _ _ HMR.out.2.1 HMR.out.2.2]; exact hs1
    replace hm : Kn w w12 [(pa, ⟨(bW 2 r, []), [bG 1, bG 2, bY r (t2, u2)]⟩, F8), (pb, ⟨(bW 2 r, []), [bG 1, bG 2, bY r (t2, u2)]⟩, F9)] [(zo, 39, #[.string t2, .string u2]), (zk, 39, #[.string t, .string u])] [(vx, [bY r (t2, u2)]), (vn, [bG 2]), (vm, [bX 2 (t, u), bG 1]), (vl, [bX 1 (t, u)])] := Kn.op (A := [(pa, ⟨(bW 2 r, []), [bG 1, bG 2, bY r (t2, u2)]⟩, F8)]) (B := []) hm hk1 hs1 hm1
    clear HA hs1 hm1 hk1
    have HA := Lib.hid (fsee_any (hm.set (pb, ⟨(bW 2 r, []), [bG 1, bG 2, bY r (t2, u2)]⟩, F9) (by simp)).1 _ [bX 2 (t, u), bG 1] (hm.row (vm, [bX 2 (t, u), bG 1]) (by simp)).slk (by simp [kn0]) (by simp [kn0]))
    go_wp2_with fail
    refine HA.out.mono ?_
    rintro e w13 ⟨bs, cs, rfl, ⟨⟨i, hi, hf⟩, _⟩ | ⟨_, _, _, ⟨F10, hs1, hm1⟩, hk1⟩⟩
    · exact absurd hf (by rw [hok2.out i hi]; decide)
    replace hs1 : OsF w13 pb ⟨(bW 2 r, []), [bG 1, bG 2, bY r (t2, u2)]⟩ F10 := by rw [← both_6h _ _ HMR.out.2.1 HMR.out.2.2]; exact hs1
    replace hm : Kn w w13 [(pa, ⟨(bW 2 r, []), [bG 1, bG 2, bY r (t2, u2)]⟩, F8), (pb, ⟨(bW 2 r, []), [bG 1, bG 2, bY r (t2, u2)]⟩, F10)] [(zo, 39, #[.string t2, .string u2]), (zk, 39, #[.string t, .string u])] [(vx, [bY r (t2, u2)]), (vn, [bG 2]), (vm, [bX 2 (t, u), bG 1]), (vl, [bX 1 (t, u)])] := Kn.op (A := [(pa, ⟨(bW 2 r, []), [bG 1, bG 2, bY r (t2, u2)]⟩, F8)]) (B := []) hm hk1 hs1 hm1
    clear HA hs1 hm1 hk1
    have c_k0 : w13.cell? ⟨zk, 0, none⟩ = some (.string t) := by rw [(hm.box (zk, 39, #[.string t, .string u]) (by simp)).1.cell]; rfl
    have c_k1 : w13.cell? ⟨zk, 1, none⟩ = some (.string u) := by rw [(hm.box (zk, 39, #[.string t, .string u]) (by simp)).1.cell]; rfl
    have c_o0 : w13.cell? ⟨zo, 0, none⟩ = some (.string t2) := by rw [(hm.box (zo, 39, #[.string t2, .string u2]) (by simp)).1.cell]; rfl
    have c_o1 : w13.cell? ⟨zo, 1, none⟩ = some (.string u2) := by rw [(hm.box (zo, 39, #[.string t2, .string u2]) (by simp)).1.cell]; rfl
    have hoB : hasB (⟨(bW 2 r, []), [bG 1, bG 2, bY r (t2, u2)]⟩ : St).I (t2, u2) = true := both_oh _
    obtain ⟨q, hq⟩ : ∃ q : Bool, decide ((t2, u2) = (t, u)) = q := ⟨_, rfl⟩
    have hkB : hasB (⟨(bW 2 r, []), [bG 1, bG 2, bY r (t2, u2)]⟩ : St).I (t, u) = q := (both_hh _ _).trans hq
    have hke : ∀ W, (Op.equalIn 10000 39 (.agg #[.string t2, .string u2]) (.agg #[.string t, .string u])).run Tryz.prog W = .ok q W := fun W => by rw [← hq]; exact keyq_eq (t2, u2) (t, u) W
    clear hq
    have HA := Lib.hid (fhas_any (hm.set (pa, ⟨(bW 2 r, []), [bG 1, bG 2, bY r (t2, u2)]⟩, F8) (by simp)).1 t u)
    rw [hkB] at HA
    go_wp2_with fail
    refine HA.out.mono ?_
    rintro e w14 ⟨rfl, hb⟩
    replace hm := hm.below hb
    clear c_k0 c_k1 c_o0 c_o1 HA hb
    have c_k0 : w14.cell? ⟨zk, 0, none⟩ = some (.string t) := by rw [(hm.box (zk, 39, #[.string t, .string u]) (by simp)).1.cell]; rfl
    have c_k1 : w14.cell? ⟨zk, 1, none⟩ = some (.string u) := by rw [(hm.box (zk, 39, #[.string t, .string u]) (by simp)).1.cell]; rfl
    have c_o0 : w14.cell? ⟨zo, 0, none⟩ = some (.string t2) := by rw [(hm.box (zo, 39, #[.string t2, .string u2]) (by simp)).1.cell]; rfl
    have c_o1 : w14.cell? ⟨zo, 1, none⟩ = some (.string u2) := by rw [(hm.box (zo, 39, #[.string t2, .string u2]) (by simp)).1.cell]; rfl
    have HA := Lib.hid (fhas_any (hm.set (pb, ⟨(bW 2 r, []), [bG 1, bG 2, bY r (t2, u2)]⟩, F10) (by simp)).1 t u)
    rw [hkB] at HA
    go_wp2_with fail
    refine HA.out.mono ?_
    rintro e w15 ⟨rfl, hb⟩
    replace hm := hm.below hb
    clear c_k0 c_k1 c_o0 c_o1 HA hb
    have c_k0 : w15.cell? ⟨zk, 0, none⟩ = some (.string t) := by rw [(hm.box (zk, 39, #[.string t, .string u]) (by simp)).1.cell]; rfl
    have c_k1 : w15.cell? ⟨zk, 1, none⟩ = some (.string u) := by rw [(hm.box (zk, 39, #[.string t, .string u]) (by simp)).1.cell]; rfl
    have c_o0 : w15.cell? ⟨zo, 0, none⟩ = some (.string t2) := by rw [(hm.box (zo, 39, #[.string t2, .string u2]) (by simp)).1.cell]; rfl
    have c_o1 : w15.cell? ⟨zo, 1, none⟩ = some (.string u2) := by rw [(hm.box (zo, 39, #[.string t2, .string u2]) (by simp)).1.cell]; rfl
    have HA := Lib.hid (fhas_any (hm.set (pa, ⟨(bW 2 r, []), [bG 1, bG 2, bY r (t2, u2)]⟩, F8) (by simp)).1 t2 u2)
    rw [hoB] at HA
    go_wp2_with fail
    refine HA.out.mono ?_
    rintro e w16 ⟨rfl, hb⟩
    replace hm := hm.below hb
    clear c_k0 c_k1 c_o0 c_o1 HA hb
    have c_k0 : w16.cell? ⟨zk, 0, none⟩ = some (.string t) := by rw [(hm.box (zk, 39, #[.string t, .string u]) (by simp)).1.cell]; rfl
    have c_k1 : w16.cell? ⟨zk, 1, none⟩ = some (.string u) := by rw [(hm.box (zk, 39, #[.string t, .string u]) (by simp)).1.cell]; rfl
    have c_o0 : w16.cell? ⟨zo, 0, none⟩ = some (.string t2) := by rw [(hm.box (zo, 39, #[.string t2, .string u2]) (by simp)).1.cell]; rfl
    have c_o1 : w16.cell? ⟨zo, 1, none⟩ = some (.string u2) := by rw [(hm.box (zo, 39, #[.string t2, .string u2]) (by simp)).1.cell]; rfl
    have HA := Lib.hid (fhas_any (hm.set (pb, ⟨(bW 2 r, []), [bG 1, bG 2, bY r (t2, u2)]⟩, F10) (by simp)).1 t2 u2)
    rw [hoB] at HA
    go_wp2_with fail
    refine HA.out.mono ?_
    rintro e w17 ⟨rfl, hb⟩
    replace hm := hm.below hb
    clear c_k0 c_k1 c_o0 c_o1 HA hb
    have HA := Lib.hid (fctx_any (hm.set (pa, ⟨(bW 2 r, []), [bG 1, bG 2, bY r (t2, u2)]⟩, F8) (by simp)).1 (by simp))
    go_wp2_with fail
    refine HA.out.mono ?_
    rintro e w18 ⟨ga, va, rfl, hcxa, _, hb⟩
    replace hm := hm.below hb
    clear HA hb
    have HA := Lib.hid (fctx_any (hm.set (pb, ⟨(bW 2 r, []), [bG 1, bG 2, bY r (t2, u2)]⟩, F10) (by simp)).1 (by simp))
    go_wp2_with fail
    refine HA.out.mono ?_
    rintro e w19 ⟨gb, vb, rfl, hcxb, _, hb⟩
    replace hm := hm.below hb
    replace hcxa := hcxa.below hb
    clear HA hb
    have HA := Lib.hid (same_any ga gb va vb _ _ _ _ w19 hcxa hcxb (by simp) (by simp))
    rw [decide_eq_true ⟨rfl, rfl⟩] at HA
    clear hcxa hcxb
    go_wp2_with fail
    refine HA.out.mono ?_
    rintro e w20 ⟨rfl, hb⟩
    replace hm := hm.below hb
    clear HA hb
    have HA := Lib.hid (fkeys_any (hm.set (pa, ⟨(bW 2 r, []), [bG 1, bG 2, bY r (t2, u2)]⟩, F8) (by simp)).1 (by simp))
    go_wp2_with fail
    refine HA.out.mono ?_
    rintro e w21 ⟨ya, Ma, rfl, hka, hoa, hla, hb⟩
    replace hm := hm.below hb
    clear HA hb
    have HA := Lib.hid (fkeys_any (hm.set (pb, ⟨(bW 2 r, []), [bG 1, bG 2, bY r (t2, u2)]⟩, F10) (by simp)).1 (by simp))
    go_wp2_with fail
    refine HA.out.mono ?_
    rintro e w22 ⟨yb, Mb, rfl, hkb, hob, hlb, hb⟩
    replace hm := hm.below hb
    replace hoa := hoa.below hb
    clear HA hb
    have hab : Ma = Mb := hka.uniq hkb
    have HA := Lib.hid (sameKeys_any ya yb Ma Mb w22 (own_ky hoa).sd (own_ky hob).sd (by simp at hla; omega) (by simp at hlb; omega))
    rw [decide_eq_true hab] at HA
    clear hab hka hkb hla hlb hoa hob
    go_wp2_with fail
    refine HA.out.mono ?_
    rintro e w23 ⟨rfl, nd, hnd⟩
    have hb : Below w22.heap.size w22 w23 := by rw [hnd]; exact below_drewN (Below.refl _ _) nd
    replace hm := hm.below hb
    clear HA hb hnd
    go_wp2_with fail
    refine (oknown_any _).mono ?_
    rintro e w24 ⟨rfl, hb⟩
    have hfin := hm.bel.trans (hb.mono hm.bel.size)
    clear hm hb
    go_wp2
    go_ret
    exact ⟨rfl, hfin⟩
end Go.Proofs.YtldfaaahmpncbaaGreat

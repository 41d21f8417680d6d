/-
  minsterref06.Record: the document's record.
-/
import Derived.Test.YtibifnknkphanaaGreatDoorWRec
import Derived.Test.YtibifnknkphanaaGreatDoorCrcRefA
import Derived.Test.YtibifnknkphanaaGreatDoorWWhole
import Derived.Test.YtibifnknkphanaaGreatDoorNum
import Derived.Test.YtibifnknkphanaaGreatDoorHeldA
import Derived.BigQuiet
namespace Go.Proofs.YtibifnknkphanaaGreatDoor
open Go.RowKit Go.Maps
open DskM
set_option linter.unusedVariables false
set_option linter.unusedSimpArgs false
set_option maxRecDepth 20000
attribute [local go_sem] Oper.semAt_some
set_option maxHeartbeats 1000000 in
theorem refRecord_any (v : Value) (l : List UInt8) (w : World) (hs : Sl w v l) (hl : l.length ≤ 900000) :
    Calls Tryz.prog 12 #[v] w fun e w' => ∃ v', e = .returned v' ∧ Own w' w.heap.size 5 v' (recP l) ∧ Below w.heap.size w w' := by
  have hcr : crcN (beB 4 l.length ++ l) < 4294967296 := by unfold crcN; omega
  have HS := Lib.hid hs
  obtain ⟨i0, hi, hz0, hz1, hz2⟩ := info_parts info_u8
  have hu : (l.length : Int) % 18446744073709551616 = (l.length : Int) := by omega
  obtain ⟨A, c, rfl, _, _⟩ := hs
  go_enter Tryz.func12, Tryz.ntmps12
  go_wp2_with fail
  refine (refPut_any l.length 4 w (by omega) (by omega)).mono ?_
  rintro e w1 ⟨v1, rfl, ho1, hb1⟩
  have HO1 := Lib.hid ho1
  have HB1 := Lib.hid hb1
  obtain ⟨A1, n1, c1, rfl⟩ := ho1.shape
  clear ho1 hb1 hu
  have hsl1 := HO1.out.sl
  obtain rfl := hsl1.len
  have hle0 : ([] : List UInt8).length + (beB 4 l.length).length ≤ 1000000000 := by rw [beB_length]; simp
  go_wp2_with (at_builtin; refine wpList_append_bytes _ rfl _ _ 22 rfl w1.heap.size 5 i0 Tryz.underlying22 hi hz0 hz1 hz2 _ [] rfl Own.nil _ (beB 4 l.length) rfl hsl1 hle0 (Nat.le_refl _) ?_)
  intro v2 w2 ho2 hb2
  have HO2 := Lib.hid ho2
  have HB2 := Lib.hid hb2
  have hsz2 : w1.heap.size ≤ w2.heap.size := hb2.size
  have HLE1 := Lib.hid (show (beB 4 l.length).length + l.length ≤ 1000000000 by rw [beB_length]; omega)
  have HSL := Lib.hid (HS.out.below (HB1.out.trans (hb2.mono HB1.out.size)))
  clear ho2 hb2 hle0 hsl1
  go_wp2_with (at_builtin; refine wpList_append_bytes _ rfl _ _ 22 rfl w1.heap.size 5 i0 Tryz.underlying22 hi hz0 hz1 hz2 _ (beB 4 l.length) rfl HO2.out _ l rfl HSL.out HLE1.out hsz2 ?_)
  intro v3 w3 ho3 hb3
  have HSUM := Lib.hid (refSum_any v3 (beB 4 l.length ++ l) w3 ho3.sl (by rw [List.length_append, beB_length]; omega))
  have HB3 := Lib.hid (HB2.out.trans hb3)
  clear ho3 hb3 HSL HLE1 hsz2
  have HR := Lib.hid (show recP l = beB 4 l.length ++ (beB 4 (crcN (beB 4 l.length ++ l)) ++ l) from rfl)
  generalize crcN (beB 4 l.length ++ l) = cr at hcr HSUM HR
  go_wp2_with fail
  refine HSUM.out.mono ?_
  rintro e w4 ⟨rfl, hb4⟩
  have HB4 := Lib.hid (HB3.out.trans (hb4.mono HB3.out.size))
  clear hb4 HSUM
  have hu : (cr : Int) % 18446744073709551616 = (cr : Int) := by omega
  go_wp2_with fail
  refine (refPut_any cr 4 w4 (by omega) (by omega)).mono ?_
  rintro e w5 ⟨v5, rfl, ho5, hb5⟩
  have HO5 := Lib.hid ho5
  have HB15 := Lib.hid (HB4.out.trans (hb5.mono HB4.out.size))
  have HB5 := Lib.hid (HB1.out.trans (HB15.out.mono HB1.out.size))
  have hsl1 := HO1.out.sl.below HB15.out
  have hsl2 := HO5.out.sl
  obtain ⟨A2, n2, c2, rfl⟩ := ho5.shape
  obtain rfl := hsl2.len
  have hS4 : Sls (w5.alloc (.cells #[.slice A1 (beB 4 l.length).length c1, .slice A2 (beB 4 cr).length c2, .slice A l.length c] 22)) (.slice (some ⟨w5.heap.size, 0, none⟩) 3 3) [beB 4 l.length, beB 4 cr, l] :=
    Sls.of_new w5 _ _ _ 3 rfl ⟨hsl1, hsl2, HS.out.below HB5.out, trivial⟩
  have hb6 : Below w5.heap.size w5 (w5.alloc (.cells #[.slice A1 (beB 4 l.length).length c1, .slice A2 (beB 4 cr).length c2, .slice A l.length c] 22)) := (Below.refl _ _).alloc (Nat.le_refl _) _
  have HB6 := Lib.hid (HB5.out.trans (hb6.mono HB5.out.size))
  have hfl : [beB 4 l.length, beB 4 cr, l].flatten = recP l := by rw [HR.out]; simp
  have HJ := Lib.hid (refJoin_any _ _ _ hS4 (by rw [hfl, recP_length]; omega) (by simp))
  rw [hfl] at HJ
  clear hsl1 hsl2 hS4 hb6 ho5 hb5 hu hfl HR
  go_wp2_with fail
  refine HJ.out.mono ?_
  rintro e w7 ⟨v', rfl, ho7, hb7⟩
  have HO7 := Lib.hid (ho7.mono HB6.out.size)
  have HB7 := Lib.hid (HB6.out.trans (hb7.mono HB6.out.size))
  clear ho7 hb7 HJ
  go_wp2
  go_ret
  exact ⟨_, rfl, HO7.out, HB7.out⟩
end Go.Proofs.YtibifnknkphanaaGreatDoor

/-
  minsterref06.Whole: the whole records with which bytes begin, as the document has them.
-/
namespace Go.Proofs.YtibifnknkphanaaGreatDoor
open Go.RowKit Go.Maps
open DskM
set_option linter.unusedVariables false
set_option linter.unusedSimpArgs false
set_option maxRecDepth 100000
attribute [local go_sem] Oper.semAt_some

theorem beB_beN : ∀ (k : Nat) (l : List UInt8), l.length = k → beB k (beN l) = l
  | 0, l, h => by rw [List.eq_nil_of_length_eq_zero h]; rfl
  | k + 1, l, h => by
    have hne : l ≠ [] := fun e => by rw [e] at h; cases h
    have e := List.dropLast_concat_getLast hne
    rw [← e, beN_snoc, beB]
    have h2 := (l.getLast hne).toNat_lt
    rw [show (beN l.dropLast * 256 + (l.getLast hne).toNat) / 256 = beN l.dropLast by omega]
    rw [beB_beN k l.dropLast (by rw [List.length_dropLast]; omega)]
    congr 1
    congr 1
    apply UInt8.toNat_inj.1
    simp
theorem rec_ok (l : List UInt8) (hn : beN (l.take 4) ≤ 1048576) (h : 8 + beN (l.take 4) ≤ l.length) : recP ((l.drop 8).take (beN (l.take 4))) = l.take (8 + beN (l.take 4)) ↔ okAt l = true := by
  have hx : ((l.drop 8).take (beN (l.take 4))).length = beN (l.take 4) := by rw [List.length_take, List.length_drop]; omega
  have e1 : l.take (8 + beN (l.take 4)) = l.take 4 ++ ((l.drop 4).take 4 ++ (l.drop 8).take (beN (l.take 4))) := by
    rw [show 8 + beN (l.take 4) = 4 + (4 + beN (l.take 4)) by omega, List.take_add, List.take_add, List.drop_drop]
  have e2 : beB 4 (beN (l.take 4)) = l.take 4 := beB_beN 4 _ (by rw [List.length_take]; omega)
  have h4 : ((l.drop 4).take 4).length = 4 := by rw [List.length_take, List.length_drop]; omega
  unfold recP okAt
  rw [hx, e2, e1]
  simp only [Bool.and_eq_true, decide_eq_true_eq]
  have hc : crcN (l.take 4 ++ (l.drop 8).take (beN (l.take 4))) < 256 ^ 4 := by unfold crcN; omega
  constructor
  · intro e
    have e3 := List.append_cancel_left e
    have e4 := List.append_cancel_right e3
    exact ⟨by omega, hn, h, by rw [← e4, beN_beB _ _ hc]⟩
  · rintro ⟨_, _, _, e⟩
    rw [← e, beB_beN 4 _ h4]
theorem row_keep {w w' : World} {base : Nat} {e : TypeId} {size : Nat} {v : Value} {n : Nat} {xs : List Value} (h : w.ownsRow base e size v n xs) (hb : Below w.heap.size w w') : w'.ownsRow base e size v n xs := row_kept h (fun k cs hk => hk.below hb hk.lt)
theorem byte_in {w : World} {b o n c : Nat} {p : List UInt8} (h : Sl w (.slice (some ⟨b, o, none⟩) n c) p) (j : Nat) (hj : j < p.length) : w.cell? ⟨b, o + j, none⟩ = some (.int .u8 (p[j].toNat : Int)) := by
  obtain ⟨A, c', e, hc, ha⟩ := h
  injection e with e1 e2 e3
  obtain ⟨b', o', e', hx⟩ := ha (by omega)
  rw [← e1] at e'
  injection e' with e'
  injection e' with e4 e5
  subst e4 e5
  exact hx j hj
/-- A part of a slice. -/
theorem Sl.midw {w : World} {b o n c : Nat} {p : List UInt8} (h : Sl w (.slice (some ⟨b, o, none⟩) n c) p) (i m c' : Nat) (hi : i + m ≤ n) (hc' : m ≤ c') : Sl w (.slice (some ⟨b, o + i, none⟩) m c') ((p.drop i).take m) := by
  have hn := h.len
  have hl : ((p.drop i).take m).length = m := by rw [List.length_take, List.length_drop]; omega
  refine ⟨_, c', by rw [hl], by rw [hl]; exact hc', fun hm => ⟨b, o + i, rfl, fun j hj => ?_⟩⟩
  rw [hl] at hj
  rw [Nat.add_assoc, byte_in h (i + j) (by omega), List.getElem_take, List.getElem_drop]
theorem conv_w {w : World} {v : Value} {l : List UInt8} {t : ByteArray} (h : Sl w v l) (e : (⟨l.toArray⟩ : ByteArray) = t) : (convert 22 9 v).run Tryz.prog w = .ok (.string t) w := by
  rw [← e]; exact h.conv Tryz.underlying22 Tryz.underlying5 Tryz.underlying9
set_option maxHeartbeats 4000000 in
theorem refWhole_any (v : Value) (b : List UInt8) (w : World) (hv : Sl w v b) (hl : b.length ≤ 800000) :
    Calls Tryz.prog 11 #[v] w fun e w' => ∃ vr xs, e = .returned (.tuple #[vr, .int .i64 (endR xs : Int)]) ∧ xs.map (·.2) = wholeP b ∧ w'.ownsRow w.heap.size 22 1 vr xs.length (xs.map (·.1)) ∧ (∀ x ∈ xs, Sl w x.1 x.2.1) ∧ Below w.heap.size w w' := by
  obtain ⟨i0, hi, hy0, hy1, hy2⟩ := info_parts info_sl
  have hfo : Tryz.prog.follows .mixedOrders = true := by kernel_rfl
  have HV := Lib.hid hv
  obtain ⟨A0, n0, c0, rfl⟩ := hv.shape
  obtain rfl := hv.len
  have hcc : b.length ≤ c0 := by obtain ⟨A, c', e, hc, _⟩ := hv; injection e with _ e2 e3; omega
  have HA := Lib.hid (show 0 < b.length → ∃ g o, A0 = some ⟨g, o, none⟩ from fun h => by
    obtain ⟨A, c', e, _, ha⟩ := hv
    obtain ⟨g, o, e2, _⟩ := ha h
    injection e with e1 _ _
    exact ⟨g, o, e1.trans e2⟩)
  clear hv
  go_enter Tryz.func11, Tryz.ntmps11
  go_wp2
  go_loopw [4, 5, 6] (fun x z y wr => ∃ (pre : List Rec) (k : Nat), z = .int .i64 (k : Int) ∧ k ≤ b.length ∧ k = endR pre ∧ pre.map (·.2) ++ wholeF (b.drop k).length (b.drop k) k = wholeP b ∧ wr.ownsRow w.heap.size 22 1 x pre.length (pre.map (·.1)) ∧ pre.length ≤ k ∧ (∀ q ∈ pre, Sl w q.1 q.2.1) ∧ Below w.heap.size w wr) (fun _ z _ _ => b.length - (intOf z).toNat)
  case atStart => exact ⟨[], 0, rfl, Nat.zero_le _, rfl, rfl, World.ownsRow_nil _ _ _ _, Nat.zero_le _, (fun _ h => nomatch h), Below.refl _ _⟩
  case round =>
    obtain ⟨pre, k, rfl, hk, hke, hpre, hrow, hpk, hsl, hb⟩ := hrel
    have HALL := Lib.hid (And.intro hke (And.intro hpre (And.intro hrow (And.intro hpk (And.intro hsl hb)))))
    obtain ⟨Ar, cr, rfl⟩ := row_shape hrow
    clear hke hpre hrow hpk hsl
    by_cases h8 : k + 8 ≤ b.length
    · obtain ⟨g, o, rfl⟩ := HA.out (by omega)
      have hvr := HV.out.below hb
      have HV4 := Lib.hid (hvr.midw k 4 (c0 - k) (by omega) (by omega))
      clear hvr hb
      obtain ⟨n, hn⟩ : ∃ n, n = beN ((b.drop k).take 4) := ⟨_, rfl⟩
      have hn32 : n < 4294967296 := by
        have := beN_lt ((b.drop k).take 4)
        rw [List.length_take, List.length_drop, show min 4 (b.length - k) = 4 by omega] at this
        omega
      have HN := Lib.hid hn
      have HGET := Lib.hid (refGet_any _ _ _ HV4.out (by rw [List.length_take]; omega))
      rw [← hn] at HGET
      clear hn HV4
      have hi8 : (k : Int) + 8 ≤ (b.length : Int) := by omega
      have hcc' : (b.length : Int) ≤ (c0 : Int) := by omega
      have hk0 : (0 : Int) ≤ (k : Int) := by omega
      have hbl : (b.length : Int) ≤ 800000 := by omega
      go_wp2_with fail
      refine HGET.out.mono ?_
      rintro e w2 ⟨rfl, rfl⟩
      clear HGET
      have hni : (n : Int) < 4294967296 := by omega
      have hn0 : (0 : Int) ≤ (n : Int) := by omega
      have HOK := Lib.hid (show okAt (b.drop k) = (decide (n ≤ 1048576) && (decide (8 + n ≤ b.length - k) && decide (beN (((b.drop k).drop 4).take 4) = crcN ((b.drop k).take 4 ++ ((b.drop k).drop 8).take n)))) by
        unfold okAt
        rw [← HN.out, List.length_drop, decide_eq_true (show 8 ≤ b.length - k by omega), Bool.true_and])
      have HSTOP := Lib.hid (show okAt (b.drop k) = false → ∀ wz, Below wr.heap.size wr wz → ∃ vr xs, Ending.returned (.tuple #[.slice Ar pre.length cr, .int .i64 (k : Int)]) = .returned (.tuple #[vr, .int .i64 (endR xs : Int)]) ∧ xs.map (·.2) = wholeP b ∧ wz.ownsRow w.heap.size 22 1 vr xs.length (xs.map (·.1)) ∧ (∀ x ∈ xs, Sl w x.1 x.2.1) ∧ Below w.heap.size w wz from fun h0 wz hz => by
        obtain ⟨e1, e2, e3, e4, e5, e6⟩ := HALL.out
        rw [whole_end _ _ h0, List.append_nil] at e2
        exact ⟨_, pre, by rw [← e1], e2, row_keep e3 hz, e5, e6.trans (hz.mono e6.size)⟩)
      by_cases hbig : 1048576 < n
      · have HE := Lib.hid (HSTOP.out (by rw [HOK.out, decide_eq_false (by omega)]; rfl))
        have hbi : (1048576 : Int) < (n : Int) := by omega
        clear HSTOP HOK
        go_wp2_with fail
        go_quiet (fail)
        go_wp2
        go_ret2
        exact HE.out _ (below_drewN (Below.refl _ _) _)
      · by_cases hroom : b.length < k + 8 + n
        · have HE := Lib.hid (HSTOP.out (by rw [HOK.out, decide_eq_false (show ¬ 8 + n ≤ b.length - k by omega)]; simp))
          have hbi : decide ((1048576 : Int) < (n : Int)) = false := by simp; omega
          have hrm : (b.length : Int) < (k : Int) + 8 + (n : Int) := by omega
          clear HSTOP HOK
          go_wp2_with fail
          go_quiet (fail)
          go_wp2
          go_ret2
          exact HE.out _ (below_drewN (Below.refl _ _) _)
        · -- MAIN
          have hbi : decide ((1048576 : Int) < (n : Int)) = false := by simp; omega
          have HK8 := Lib.hid (show IntKind.i64.wrap ((k : Int) + 8) = (k : Int) + 8 by simp [IntKind.wrap, IntKind.bits, IntKind.signed]; omega)
          have HKN := Lib.hid (show IntKind.i64.wrap ((k : Int) + 8 + (n : Int)) = (k : Int) + 8 + (n : Int) by simp [IntKind.wrap, IntKind.bits, IntKind.signed]; omega)
          have HRM := Lib.hid (show decide ((b.length : Int) < (k : Int) + 8 + (n : Int)) = false by simp; omega)
          have hbi2 : ¬ (1048576 : Int) < (n : Int) := by omega
          have hrm : ¬ (b.length : Int) < (k : Int) + 8 + (n : Int) := by omega
          have hrm2 : (k : Int) + 8 + (n : Int) ≤ (b.length : Int) := by omega
          obtain ⟨X, hX⟩ : ∃ X, X = ((b.drop k).drop 8).take n := ⟨_, rfl⟩
          have hXl : X.length = n := by rw [hX, List.length_take, List.length_drop, List.length_drop]; omega
          have HXL := Lib.hid (show X.length ≤ 900000 by omega)
          have HXD := Lib.hid hX
          have HXN := Lib.hid hXl
          have HY := Lib.hid (show Sl wr (.slice (some ⟨g, o + k, none⟩) (8 + n) (c0 - k)) ((b.drop k).take (8 + n)) from (HV.out.below HALL.out.2.2.2.2.2).midw k (8 + n) (c0 - k) (by omega) (by omega))
          obtain ⟨sx, hsx⟩ : ∃ sx : ByteArray, (⟨(recP X).toArray⟩ : ByteArray) = sx := ⟨_, rfl⟩
          obtain ⟨sy, hsy⟩ : ∃ sy : ByteArray, (⟨((b.drop k).take (8 + n)).toArray⟩ : ByteArray) = sy := ⟨_, rfl⟩
          have HREC := Lib.hid (show sx = sy ↔ okAt (b.drop k) = true by
            have hr := rec_ok (b.drop k) (by rw [← HN.out]; omega) (by rw [← HN.out, List.length_drop]; omega)
            rw [← HN.out, ← hX] at hr
            rw [← hr, ← hsx, ← hsy]
            constructor
            · intro e; injection e with e; injection e
            · intro e; rw [e])
          have HSX := Lib.hid hsx
          have HSY := Lib.hid hsy
          clear hsx hsy hX hXl hbig hroom
          have HT8 := Lib.hid (show ((k : Int) + 8).toNat = k + 8 by omega)
          have HTN := Lib.hid (show ((k : Int) + 8 + (n : Int)).toNat - (k + 8) = n by omega)
          have HTN2 := Lib.hid (show ((k : Int) + 8 + (n : Int)).toNat - k = 8 + n by omega)
          by_cases hc8 : c0 = k + 8
          · have HC8 := Lib.hid hc8
            have HXZ := Lib.hid (show ∀ wz : World, Sl wz (.slice (some ⟨g, o, none⟩) n (c0 - (k + 8))) X from fun wz => ⟨_, c0 - (k + 8), by rw [HXN.out], by rw [HXN.out]; omega, fun h => absurd h (by rw [HXN.out]; omega)⟩)
            have HX := Lib.hid (show Sl wr (.slice (some ⟨g, o, none⟩) n (c0 - (k + 8))) X from HXZ.out wr)
            have HX0 := Lib.hid (HXZ.out w)
            clear hc8
            cases hok : okAt (b.drop k) with
            | false =>
              have HE := Lib.hid (HSTOP.out hok)
              have HBQ := Lib.hid (show (!sx.toList == sy.toList) = true by
                rw [ByteArray.toList_eq, ByteArray.toList_eq, Bool.not_eq_true', beq_eq_false_iff_ne]
                intro e
                have e2 : sx = sy := by
                  cases sx; cases sy; congr 1; exact Array.toList_inj.1 e
                rw [HREC.out.1 e2] at hok; cases hok)
              clear hok HREC HSTOP HOK
              go_wp2_with fail
              have HB := Lib.hid (show ∀ X, Below wr.heap.size wr.drew X → Below wr.heap.size wr X from fun X hX => (Below.refl _ _).drew.trans hX)
              refine wp_region_held_drew (S := fun X => Below wr.heap.size wr.drew X) hfo (Below.refl _ _) (fun hS0 => ?_)
              obtain ⟨Z0, hZ0⟩ : ∃ Z0, Z0 = wr.drew := ⟨_, rfl⟩
              have hzz : wr.heap.size ≤ Z0.heap.size := by rw [hZ0]; exact Nat.le_refl _
              rw [← hZ0] at hS0 HB ⊢
              clear hZ0
              refine' wpAnyH_take (i := 0) (oi := ⟨some 19, _, _, _, _, _⟩) (v := _) rfl (by kernel_rfl) (by kernel_rfl) (by kernel_rfl) (fun _ _ _ h => h) (Or.inl ⟨by rfl, ?y0f0⟩) hS0 ?r0f0
              case y0f0 => (intro w' hSw; go_simp; try rfl)
              try simp only [Act.put, List.setIfInBounds_toArray, List.set_cons_zero, List.set_cons_succ, HK8.out, HKN.out, HRM.out, HBQ.out]
              refine' wpAnyH_take (i := 1) (oi := ⟨some 20, _, _, _, _, _⟩) (v := _) rfl (by kernel_rfl) (by kernel_rfl) (by kernel_rfl) (fun _ _ _ h => h) (Or.inl ⟨by rfl, ?y1f0⟩) hS0 ?r1f0
              case y1f0 => (intro w' hSw; go_simp; try rfl)
              try simp only [Act.put, List.setIfInBounds_toArray, List.set_cons_zero, List.set_cons_succ, HK8.out, HKN.out, HRM.out, HBQ.out]
              refine' wpAnyH_take (i := 2) (oi := ⟨some 21, _, _, _, _, _⟩) (v := _) rfl (by kernel_rfl) (by kernel_rfl) (by kernel_rfl) (fun _ _ _ h => h) (Or.inl ⟨by rfl, ?y2f0⟩) hS0 ?r2f0
              case y2f0 => (intro w' hSw; go_simp; try rfl)
              try simp only [Act.put, List.setIfInBounds_toArray, List.set_cons_zero, List.set_cons_succ, HK8.out, HKN.out, HRM.out, HBQ.out]
              refine' wpAnyH_take (i := 3) (oi := ⟨some 22, _, _, _, _, _⟩) (v := _) rfl (by kernel_rfl) (by kernel_rfl) (by kernel_rfl) (fun _ _ _ h => h) (Or.inl ⟨by rfl, ?y3f0⟩) hS0 ?r3f0
              case y3f0 => (intro w' hSw; go_simp; try rfl)
              try simp only [Act.put, List.setIfInBounds_toArray, List.set_cons_zero, List.set_cons_succ, HK8.out, HKN.out, HRM.out, HBQ.out]
              refine' wpAnyH_take (i := 4) (oi := ⟨some 23, _, _, _, _, _⟩) (v := _) rfl (by kernel_rfl) (by kernel_rfl) (by kernel_rfl) (fun _ _ _ h => h) (Or.inl ⟨by rfl, ?y4f0⟩) hS0 ?r4f0
              case y4f0 => (intro w' hSw; go_simp; try rfl)
              try simp only [Act.put, List.setIfInBounds_toArray, List.set_cons_zero, List.set_cons_succ, HK8.out, HKN.out, HRM.out, HBQ.out]
              refine' wpAnyH_take (i := 5) (oi := ⟨some 24, _, _, _, _, _⟩) (v := _) rfl (by kernel_rfl) (by kernel_rfl) (by kernel_rfl) (fun _ _ _ h => h) (Or.inl ⟨by rfl, ?y5f0⟩) hS0 ?r5f0
              case y5f0 => (intro w' hSw; go_simp; try rfl)
              try simp only [Act.put, List.setIfInBounds_toArray, List.set_cons_zero, List.set_cons_succ, HK8.out, HKN.out, HRM.out, HBQ.out]
              refine' wpAnyH_take (i := 6) (oi := ⟨some 25, _, _, _, _, _⟩) (v := _) rfl (by kernel_rfl) (by kernel_rfl) (by kernel_rfl) (fun _ _ _ h => h) (Or.inl ⟨by rfl, ?y6f0⟩) hS0 ?r6f0
              case y6f0 => (intro w' hSw; go_simp; try rfl)
              try simp only [Act.put, List.setIfInBounds_toArray, List.set_cons_zero, List.set_cons_succ, HK8.out, HKN.out, HRM.out, HBQ.out]
              refine' wpAnyH_take (i := 7) (oi := ⟨some 26, _, _, _, _, _⟩) (v := _) rfl (by kernel_rfl) (by kernel_rfl) (by kernel_rfl) (fun _ _ _ h => h) (Or.inl ⟨by rfl, ?y7f0⟩) hS0 ?r7f0
              case y7f0 => (intro w' hSw; go_simp; try rfl)
              try simp only [Act.put, List.setIfInBounds_toArray, List.set_cons_zero, List.set_cons_succ, HK8.out, HKN.out, HRM.out, HBQ.out]
              refine' wpAnyH_take (i := 8) (oi := ⟨some 27, _, _, _, _, _⟩) (v := _) rfl (by kernel_rfl) (by kernel_rfl) (by kernel_rfl) (fun _ _ _ h => h) (Or.inl ⟨by rfl, ?y8f0⟩) hS0 ?r8f0
              case y8f0 => (intro w' hSw; go_simp; try rfl)
              try simp only [Act.put, List.setIfInBounds_toArray, List.set_cons_zero, List.set_cons_succ, HK8.out, HKN.out, HRM.out, HBQ.out]
              refine' wpAnyH_take (i := 9) (oi := ⟨some 28, _, _, _, _, _⟩) (v := _) rfl (by kernel_rfl) (by kernel_rfl) (by kernel_rfl) (fun _ _ _ h => h) (Or.inl ⟨by rfl, ?y9f0⟩) hS0 ?r9f0
              case y9f0 => (intro w' hSw; go_simp; try rfl)
              try simp only [Act.put, List.setIfInBounds_toArray, List.set_cons_zero, List.set_cons_succ, HK8.out, HKN.out, HRM.out, HBQ.out]
              refine' wpAnyH_take (i := 10) (oi := ⟨some 29, _, _, _, _, _⟩) (v := _) rfl (by kernel_rfl) (by kernel_rfl) (by kernel_rfl) (fun _ _ _ h => h) (Or.inl ⟨by rfl, ?y10f0⟩) hS0 ?r10f0
              case y10f0 => (intro w' hSw; go_simp; try rfl)
              try simp only [Act.put, List.setIfInBounds_toArray, List.set_cons_zero, List.set_cons_succ, HK8.out, HKN.out, HRM.out, HBQ.out]
              refine' wpAnyH_take (i := 11) (oi := ⟨some 30, _, _, _, _, _⟩) (v := _) rfl (by kernel_rfl) (by kernel_rfl) (by kernel_rfl) (fun _ _ _ h => h) (Or.inl ⟨by rfl, ?y11f0⟩) hS0 ?r11f0
              case y11f0 => (intro w' hSw; go_simp; try rfl)
              try simp only [Act.put, List.setIfInBounds_toArray, List.set_cons_zero, List.set_cons_succ, HK8.out, HKN.out, HRM.out, HBQ.out]
              refine' wpAnyH_take (i := 12) (oi := ⟨some 31, _, _, _, _, _⟩) (v := _) rfl (by kernel_rfl) (by kernel_rfl) (by kernel_rfl) (fun _ _ _ h => h) (Or.inl ⟨by rfl, ?y12f0⟩) hS0 ?r12f0
              case y12f0 => (intro w' hSw; go_simp; try rfl)
              try simp only [Act.put, List.setIfInBounds_toArray, List.set_cons_zero, List.set_cons_succ, HK8.out, HKN.out, HRM.out, HBQ.out]
              refine' wpAnyH_take (i := 13) (oi := ⟨some 32, _, _, _, _, _⟩) (v := _) rfl (by kernel_rfl) (by kernel_rfl) (by kernel_rfl) (fun _ _ _ h => h) (Or.inl ⟨by rfl, ?y13f0⟩) hS0 ?r13f0
              case y13f0 => (intro w' hSw; go_simp; try rfl)
              try simp only [Act.put, List.setIfInBounds_toArray, List.set_cons_zero, List.set_cons_succ, HK8.out, HKN.out, HRM.out, HBQ.out]
              refine' wpAnyH_take (i := 14) (oi := ⟨some 33, _, _, _, _, _⟩) (v := _) rfl (by kernel_rfl) (by kernel_rfl) (by kernel_rfl) (fun _ _ _ h => h) (Or.inl ⟨by rfl, ?y14f0⟩) hS0 ?r14f0
              case y14f0 => (intro w' hSw; go_simp; try rfl)
              try simp only [Act.put, List.setIfInBounds_toArray, List.set_cons_zero, List.set_cons_succ, HK8.out, HKN.out, HRM.out, HBQ.out]
              refine' wpAnyH_take (i := 15) (oi := ⟨some 34, _, _, _, _, _⟩) (v := _) rfl (by kernel_rfl) (by kernel_rfl) (by kernel_rfl) (fun _ _ _ h => h) (Or.inl ⟨by rfl, ?y15f0⟩) hS0 ?r15f0
              case y15f0 => (intro w' hSw; go_simp; try rfl)
              try simp only [Act.put, List.setIfInBounds_toArray, List.set_cons_zero, List.set_cons_succ, HK8.out, HKN.out, HRM.out, HBQ.out]
              refine' wpAnyH_take (i := 16) (oi := ⟨some 35, _, _, _, _, _⟩) (v := _) rfl (by kernel_rfl) (by kernel_rfl) (by kernel_rfl) (fun _ _ _ h => h) (Or.inl ⟨by rfl, ?y16f0⟩) hS0 ?r16f0
              case y16f0 => (intro w' hSw; go_simp; try rfl)
              try simp only [Act.put, List.setIfInBounds_toArray, List.set_cons_zero, List.set_cons_succ, HK8.out, HKN.out, HRM.out, HBQ.out]
              refine' wpAnyH_take (i := 17) (oi := ⟨some 36, _, _, _, _, _⟩) (v := _) rfl (by kernel_rfl) (by kernel_rfl) (by kernel_rfl) (fun _ _ _ h => h) (Or.inl ⟨by rfl, ?y17f0⟩) hS0 ?r17f0
              case y17f0 => (intro w' hSw; go_simp; try rfl)
              try simp only [Act.put, List.setIfInBounds_toArray, List.set_cons_zero, List.set_cons_succ, HK8.out, HKN.out, HRM.out, HBQ.out]
              refine' wpAnyH_take (i := 18) (oi := ⟨some 37, _, _, _, _, _⟩) (v := _) rfl (by kernel_rfl) (by kernel_rfl) (by kernel_rfl) (fun _ _ _ h => h) (Or.inl ⟨by rfl, ?y18f0⟩) hS0 ?r18f0
              case y18f0 => (intro w' hSw; go_simp; try rfl)
              try simp only [Act.put, List.setIfInBounds_toArray, List.set_cons_zero, List.set_cons_succ, HK8.out, HKN.out, HRM.out, HBQ.out]
              refine' wpAnyH_take (i := 22) (oi := ⟨some 41, _, _, _, _, _⟩) (v := _) rfl (by kernel_rfl) (by kernel_rfl) (by kernel_rfl) (fun _ _ _ h => h) (Or.inl ⟨by rfl, ?y22f0⟩) hS0 ?r22f0
              case y22f0 => (intro w' hSw; go_simp; try rfl)
              try simp only [Act.put, List.setIfInBounds_toArray, List.set_cons_zero, List.set_cons_succ, HK8.out, HKN.out, HRM.out, HBQ.out]
              refine' wpAnyH_take (i := 23) (oi := ⟨some 42, _, _, _, _, _⟩) (v := _) rfl (by kernel_rfl) (by kernel_rfl) (by kernel_rfl) (fun _ _ _ h => h) (Or.inl ⟨by rfl, ?y23f0⟩) hS0 ?r23f0
              case y23f0 => (intro w' hSw; go_simp; try rfl)
              try simp only [Act.put, List.setIfInBounds_toArray, List.set_cons_zero, List.set_cons_succ, HK8.out, HKN.out, HRM.out, HBQ.out]
              refine' wpAnyH_take (i := 24) (oi := ⟨some 43, _, _, _, _, _⟩) (v := _) rfl (by kernel_rfl) (by kernel_rfl) (by kernel_rfl) (fun _ _ _ h => h) (Or.inl ⟨by rfl, ?y24f0⟩) hS0 ?r24f0
              case y24f0 => (intro w' hSw; go_simp; try rfl)
              try simp only [Act.put, List.setIfInBounds_toArray, List.set_cons_zero, List.set_cons_succ, HK8.out, HKN.out, HRM.out, HBQ.out]
              refine' wpAnyH_take (i := 25) (oi := ⟨some 44, _, _, _, _, _⟩) (v := _) rfl (by kernel_rfl) (by kernel_rfl) (by kernel_rfl) (fun _ _ _ h => h) (Or.inl ⟨by rfl, ?y25f0⟩) hS0 ?r25f0
              case y25f0 => (intro w' hSw; go_simp; try rfl)
              try simp only [Act.put, List.setIfInBounds_toArray, List.set_cons_zero, List.set_cons_succ, HK8.out, HKN.out, HRM.out, HBQ.out]
              refine' wpAnyH_take (i := 26) (oi := ⟨some 45, _, _, _, _, _⟩) (v := _) rfl (by kernel_rfl) (by kernel_rfl) (by kernel_rfl) (fun _ _ _ h => h) (Or.inl ⟨by rfl, ?y26f0⟩) hS0 ?r26f0
              case y26f0 => (intro w' hSw; go_simp; try rfl)
              try simp only [Act.put, List.setIfInBounds_toArray, List.set_cons_zero, List.set_cons_succ, HK8.out, HKN.out, HRM.out, HBQ.out]
              refine' wpAnyH_take (i := 27) (oi := ⟨some 46, _, _, _, _, _⟩) (v := _) rfl (by kernel_rfl) (by kernel_rfl) (by kernel_rfl) (fun _ _ _ h => h) (Or.inl ⟨by rfl, ?y27f0⟩) hS0 ?r27f0
              case y27f0 => (intro w' hSw; go_simp; try rfl)
              try simp only [Act.put, List.setIfInBounds_toArray, List.set_cons_zero, List.set_cons_succ, HK8.out, HKN.out, HRM.out, HBQ.out]
              refine' wpAnyH_take (i := 19) (oi := ⟨some 38, _, _, _, _, _⟩) (v := .slice (some ⟨g, o, none⟩) n (c0 - (k + 8))) rfl (by kernel_rfl) (by kernel_rfl) (by kernel_rfl) (fun _ _ _ h => h) (Or.inl ⟨by rfl, ?y19f0⟩) hS0 ?r19f0
              case y19f0 => (intro w' hSw; go_simp; rw [if_pos ⟨by omega, by omega⟩, if_pos ⟨by omega, by omega⟩, HT8.out, if_pos HC8.out, HTN.out])
              try simp only [Act.put, List.setIfInBounds_toArray, List.set_cons_zero, List.set_cons_succ, HK8.out, HKN.out, HRM.out, HBQ.out]
              refine' wpAnyH_take (i := 28) (oi := ⟨some 47, _, _, _, _, _⟩) (v := .slice (some ⟨g, o + k, none⟩) (8 + n) (c0 - k)) rfl (by kernel_rfl) (by kernel_rfl) (by kernel_rfl) (fun _ _ _ h => h) (Or.inl ⟨by rfl, ?y28f0⟩) hS0 ?r28f0
              case y28f0 => (intro w' hSw; go_simp; rw [if_pos ⟨by omega, by omega⟩, if_pos (by omega), if_neg (by omega), HTN2.out])
              try simp only [Act.put, List.setIfInBounds_toArray, List.set_cons_zero, List.set_cons_succ, HK8.out, HKN.out, HRM.out, HBQ.out]
              refine' wpAnyH_take (i := 29) (oi := ⟨some 48, _, _, _, _, _⟩) (v := _) rfl (by kernel_rfl) (by kernel_rfl) (by kernel_rfl) (fun _ _ _ h => h) (Or.inl ⟨by rfl, ?y29f0⟩) hS0 ?r29f0
              case y29f0 => (intro w' hSw; have hcv := conv_w (HY.out.below (HB.out w' hSw)) HSY.out; go_simp; try rfl)
              try simp only [Act.put, List.setIfInBounds_toArray, List.set_cons_zero, List.set_cons_succ, HK8.out, HKN.out, HRM.out, HBQ.out]
              refine held_one (i := 20) (by kernel_rfl) rfl (fun Kf0 hK => ?_)
              go_simp
              refine (refRecord_any _ _ _ (HX.out.below (HB.out _ hS0)) HXL.out).mono ?_
              rintro e Z1 ⟨v1, rfl, ho1, hb1⟩
              obtain ⟨A1, n1, c1, rfl⟩ := ho1.shape
              have hS1 := hS0.trans (hb1.mono (Nat.le_trans hzz hS0.size))
              have HCV := Lib.hid (conv_w ho1.sl HSX.out)
              clear ho1 hb1
              refine hK.out _ _ hS1 (fun _ => ?_)
              clear hK Kf0
              try simp only [Act.put, List.setIfInBounds_toArray, List.set_cons_zero, List.set_cons_succ, HK8.out, HKN.out, HRM.out, HBQ.out]
              refine held_one (i := 21) (by kernel_rfl) rfl (fun Kf0 hK => ?_)
              have hcv := HCV.out
              go_simp
              refine hK.out _ _ hS1 (fun _ => ?_)
              clear hK Kf0
              try simp only [Act.put, List.setIfInBounds_toArray, List.set_cons_zero, List.set_cons_succ, HK8.out, HKN.out, HRM.out, HBQ.out]
              refine' wpAnyH_take (i := 30) (oi := ⟨some 49, _, _, _, _, _⟩) (v := _) rfl (by kernel_rfl) (by kernel_rfl) (by kernel_rfl) (fun _ _ _ h => h) (Or.inl ⟨by rfl, ?y30f0⟩) hS1 ?r30f0
              case y30f0 => (intro w' hSw; go_simp; try rfl)
              try simp only [Act.put, List.setIfInBounds_toArray, List.set_cons_zero, List.set_cons_succ, HK8.out, HKN.out, HRM.out, HBQ.out]
              refine' wpAnyH_take (i := 31) (oi := ⟨some 50, _, _, _, _, _⟩) (v := _) rfl (by kernel_rfl) (by kernel_rfl) (by kernel_rfl) (fun _ _ _ h => h) (Or.inl ⟨by rfl, ?y31f0⟩) hS1 ?r31f0
              case y31f0 => (intro w' hSw; go_simp; try rfl)
              try simp only [Act.put, List.setIfInBounds_toArray, List.set_cons_zero, List.set_cons_succ, HK8.out, HKN.out, HRM.out, HBQ.out]
              refine wpAnyH_done (by kernel_rfl) ?_ _
              have HZ := Lib.hid (HB.out _ hS1)
              clear hS1 hS0 HB HCV hzz HSX HSY hcv hbi HRM hrm
              go_wp2
              go_ret2
              exact HE.out _ HZ.out
            | true =>
              obtain rfl := HREC.out.2 hok
              have HBQ := Lib.hid (show (!sx.toList == sx.toList) = false by simp)
              have HST := Lib.hid (whole_step (b.drop k) k hok)
              clear hok HREC HSTOP HOK
              go_wp2_with fail
              have HB := Lib.hid (show ∀ X, Below wr.heap.size wr.drew X → Below wr.heap.size wr X from fun X hX => (Below.refl _ _).drew.trans hX)
              refine wp_region_held_drew (S := fun X => Below wr.heap.size wr.drew X) hfo (Below.refl _ _) (fun hS0 => ?_)
              obtain ⟨Z0, hZ0⟩ : ∃ Z0, Z0 = wr.drew := ⟨_, rfl⟩
              have hzz : wr.heap.size ≤ Z0.heap.size := by rw [hZ0]; exact Nat.le_refl _
              rw [← hZ0] at hS0 HB ⊢
              clear hZ0
              refine' wpAnyH_take (i := 0) (oi := ⟨some 19, _, _, _, _, _⟩) (v := _) rfl (by kernel_rfl) (by kernel_rfl) (by kernel_rfl) (fun _ _ _ h => h) (Or.inl ⟨by rfl, ?y0t0⟩) hS0 ?r0t0
              case y0t0 => (intro w' hSw; go_simp; try rfl)
              try simp only [Act.put, List.setIfInBounds_toArray, List.set_cons_zero, List.set_cons_succ, HK8.out, HKN.out, HRM.out, HBQ.out]
              refine' wpAnyH_take (i := 1) (oi := ⟨some 20, _, _, _, _, _⟩) (v := _) rfl (by kernel_rfl) (by kernel_rfl) (by kernel_rfl) (fun _ _ _ h => h) (Or.inl ⟨by rfl, ?y1t0⟩) hS0 ?r1t0
              case y1t0 => (intro w' hSw; go_simp; try rfl)
              try simp only [Act.put, List.setIfInBounds_toArray, List.set_cons_zero, List.set_cons_succ, HK8.out, HKN.out, HRM.out, HBQ.out]
              refine' wpAnyH_take (i := 2) (oi := ⟨some 21, _, _, _, _, _⟩) (v := _) rfl (by kernel_rfl) (by kernel_rfl) (by kernel_rfl) (fun _ _ _ h => h) (Or.inl ⟨by rfl, ?y2t0⟩) hS0 ?r2t0
              case y2t0 => (intro w' hSw; go_simp; try rfl)
              try simp only [Act.put, List.setIfInBounds_toArray, List.set_cons_zero, List.set_cons_succ, HK8.out, HKN.out, HRM.out, HBQ.out]
              refine' wpAnyH_take (i := 3) (oi := ⟨some 22, _, _, _, _, _⟩) (v := _) rfl (by kernel_rfl) (by kernel_rfl) (by kernel_rfl) (fun _ _ _ h => h) (Or.inl ⟨by rfl, ?y3t0⟩) hS0 ?r3t0
              case y3t0 => (intro w' hSw; go_simp; try rfl)
              try simp only [Act.put, List.setIfInBounds_toArray, List.set_cons_zero, List.set_cons_succ, HK8.out, HKN.out, HRM.out, HBQ.out]
              refine' wpAnyH_take (i := 4) (oi := ⟨some 23, _, _, _, _, _⟩) (v := _) rfl (by kernel_rfl) (by kernel_rfl) (by kernel_rfl) (fun _ _ _ h => h) (Or.inl ⟨by rfl, ?y4t0⟩) hS0 ?r4t0
              case y4t0 => (intro w' hSw; go_simp; try rfl)
              try simp only [Act.put, List.setIfInBounds_toArray, List.set_cons_zero, List.set_cons_succ, HK8.out, HKN.out, HRM.out, HBQ.out]
              refine' wpAnyH_take (i := 5) (oi := ⟨some 24, _, _, _, _, _⟩) (v := _) rfl (by kernel_rfl) (by kernel_rfl) (by kernel_rfl) (fun _ _ _ h => h) (Or.inl ⟨by rfl, ?y5t0⟩) hS0 ?r5t0
              case y5t0 => (intro w' hSw; go_simp; try rfl)
              try simp only [Act.put, List.setIfInBounds_toArray, List.set_cons_zero, List.set_cons_succ, HK8.out, HKN.out, HRM.out, HBQ.out]
              refine' wpAnyH_take (i := 6) (oi := ⟨some 25, _, _, _, _, _⟩) (v := _) rfl (by kernel_rfl) (by kernel_rfl) (by kernel_rfl) (fun _ _ _ h => h) (Or.inl ⟨by rfl, ?y6t0⟩) hS0 ?r6t0
              case y6t0 => (intro w' hSw; go_simp; try rfl)
              try simp only [Act.put, List.setIfInBounds_toArray, List.set_cons_zero, List.set_cons_succ, HK8.out, HKN.out, HRM.out, HBQ.out]
              refine' wpAnyH_take (i := 7) (oi := ⟨some 26, _, _, _, _, _⟩) (v := _) rfl (by kernel_rfl) (by kernel_rfl) (by kernel_rfl) (fun _ _ _ h => h) (Or.inl ⟨by rfl, ?y7t0⟩) hS0 ?r7t0
              case y7t0 => (intro w' hSw; go_simp; try rfl)
              try simp only [Act.put, List.setIfInBounds_toArray, List.set_cons_zero, List.set_cons_succ, HK8.out, HKN.out, HRM.out, HBQ.out]
              refine' wpAnyH_take (i := 8) (oi := ⟨some 27, _, _, _, _, _⟩) (v := _) rfl (by kernel_rfl) (by kernel_rfl) (by kernel_rfl) (fun _ _ _ h => h) (Or.inl ⟨by rfl, ?y8t0⟩) hS0 ?r8t0
              case y8t0 => (intro w' hSw; go_simp; try rfl)
              try simp only [Act.put, List.setIfInBounds_toArray, List.set_cons_zero, List.set_cons_succ, HK8.out, HKN.out, HRM.out, HBQ.out]
              refine' wpAnyH_take (i := 9) (oi := ⟨some 28, _, _, _, _, _⟩) (v := _) rfl (by kernel_rfl) (by kernel_rfl) (by kernel_rfl) (fun _ _ _ h => h) (Or.inl ⟨by rfl, ?y9t0⟩) hS0 ?r9t0
              case y9t0 => (intro w' hSw; go_simp; try rfl)
              try simp only [Act.put, List.setIfInBounds_toArray, List.set_cons_zero, List.set_cons_succ, HK8.out, HKN.out, HRM.out, HBQ.out]
              refine' wpAnyH_take (i := 10) (oi := ⟨some 29, _, _, _, _, _⟩) (v := _) rfl (by kernel_rfl) (by kernel_rfl) (by kernel_rfl) (fun _ _ _ h => h) (Or.inl ⟨by rfl, ?y10t0⟩) hS0 ?r10t0
              case y10t0 => (intro w' hSw; go_simp; try rfl)
              try simp only [Act.put, List.setIfInBounds_toArray, List.set_cons_zero, List.set_cons_succ, HK8.out, HKN.out, HRM.out, HBQ.out]
              refine' wpAnyH_take (i := 11) (oi := ⟨some 30, _, _, _, _, _⟩) (v := _) rfl (by kernel_rfl) (by kernel_rfl) (by kernel_rfl) (fun _ _ _ h => h) (Or.inl ⟨by rfl, ?y11t0⟩) hS0 ?r11t0
              case y11t0 => (intro w' hSw; go_simp; try rfl)
              try simp only [Act.put, List.setIfInBounds_toArray, List.set_cons_zero, List.set_cons_succ, HK8.out, HKN.out, HRM.out, HBQ.out]
              refine' wpAnyH_take (i := 12) (oi := ⟨some 31, _, _, _, _, _⟩) (v := _) rfl (by kernel_rfl) (by kernel_rfl) (by kernel_rfl) (fun _ _ _ h => h) (Or.inl ⟨by rfl, ?y12t0⟩) hS0 ?r12t0
              case y12t0 => (intro w' hSw; go_simp; try rfl)
              try simp only [Act.put, List.setIfInBounds_toArray, List.set_cons_zero, List.set_cons_succ, HK8.out, HKN.out, HRM.out, HBQ.out]
              refine' wpAnyH_take (i := 13) (oi := ⟨some 32, _, _, _, _, _⟩) (v := _) rfl (by kernel_rfl) (by kernel_rfl) (by kernel_rfl) (fun _ _ _ h => h) (Or.inl ⟨by rfl, ?y13t0⟩) hS0 ?r13t0
              case y13t0 => (intro w' hSw; go_simp; try rfl)
              try simp only [Act.put, List.setIfInBounds_toArray, List.set_cons_zero, List.set_cons_succ, HK8.out, HKN.out, HRM.out, HBQ.out]
              refine' wpAnyH_take (i := 14) (oi := ⟨some 33, _, _, _, _, _⟩) (v := _) rfl (by kernel_rfl) (by kernel_rfl) (by kernel_rfl) (fun _ _ _ h => h) (Or.inl ⟨by rfl, ?y14t0⟩) hS0 ?r14t0
              case y14t0 => (intro w' hSw; go_simp; try rfl)
              try simp only [Act.put, List.setIfInBounds_toArray, List.set_cons_zero, List.set_cons_succ, HK8.out, HKN.out, HRM.out, HBQ.out]
              refine' wpAnyH_take (i := 15) (oi := ⟨some 34, _, _, _, _, _⟩) (v := _) rfl (by kernel_rfl) (by kernel_rfl) (by kernel_rfl) (fun _ _ _ h => h) (Or.inl ⟨by rfl, ?y15t0⟩) hS0 ?r15t0
              case y15t0 => (intro w' hSw; go_simp; try rfl)
              try simp only [Act.put, List.setIfInBounds_toArray, List.set_cons_zero, List.set_cons_succ, HK8.out, HKN.out, HRM.out, HBQ.out]
              refine' wpAnyH_take (i := 16) (oi := ⟨some 35, _, _, _, _, _⟩) (v := _) rfl (by kernel_rfl) (by kernel_rfl) (by kernel_rfl) (fun _ _ _ h => h) (Or.inl ⟨by rfl, ?y16t0⟩) hS0 ?r16t0
              case y16t0 => (intro w' hSw; go_simp; try rfl)
              try simp only [Act.put, List.setIfInBounds_toArray, List.set_cons_zero, List.set_cons_succ, HK8.out, HKN.out, HRM.out, HBQ.out]
              refine' wpAnyH_take (i := 17) (oi := ⟨some 36, _, _, _, _, _⟩) (v := _) rfl (by kernel_rfl) (by kernel_rfl) (by kernel_rfl) (fun _ _ _ h => h) (Or.inl ⟨by rfl, ?y17t0⟩) hS0 ?r17t0
              case y17t0 => (intro w' hSw; go_simp; try rfl)
              try simp only [Act.put, List.setIfInBounds_toArray, List.set_cons_zero, List.set_cons_succ, HK8.out, HKN.out, HRM.out, HBQ.out]
              refine' wpAnyH_take (i := 18) (oi := ⟨some 37, _, _, _, _, _⟩) (v := _) rfl (by kernel_rfl) (by kernel_rfl) (by kernel_rfl) (fun _ _ _ h => h) (Or.inl ⟨by rfl, ?y18t0⟩) hS0 ?r18t0
              case y18t0 => (intro w' hSw; go_simp; try rfl)
              try simp only [Act.put, List.setIfInBounds_toArray, List.set_cons_zero, List.set_cons_succ, HK8.out, HKN.out, HRM.out, HBQ.out]
              refine' wpAnyH_take (i := 22) (oi := ⟨some 41, _, _, _, _, _⟩) (v := _) rfl (by kernel_rfl) (by kernel_rfl) (by kernel_rfl) (fun _ _ _ h => h) (Or.inl ⟨by rfl, ?y22t0⟩) hS0 ?r22t0
              case y22t0 => (intro w' hSw; go_simp; try rfl)
              try simp only [Act.put, List.setIfInBounds_toArray, List.set_cons_zero, List.set_cons_succ, HK8.out, HKN.out, HRM.out, HBQ.out]
              refine' wpAnyH_take (i := 23) (oi := ⟨some 42, _, _, _, _, _⟩) (v := _) rfl (by kernel_rfl) (by kernel_rfl) (by kernel_rfl) (fun _ _ _ h => h) (Or.inl ⟨by rfl, ?y23t0⟩) hS0 ?r23t0
              case y23t0 => (intro w' hSw; go_simp; try rfl)
              try simp only [Act.put, List.setIfInBounds_toArray, List.set_cons_zero, List.set_cons_succ, HK8.out, HKN.out, HRM.out, HBQ.out]
              refine' wpAnyH_take (i := 24) (oi := ⟨some 43, _, _, _, _, _⟩) (v := _) rfl (by kernel_rfl) (by kernel_rfl) (by kernel_rfl) (fun _ _ _ h => h) (Or.inl ⟨by rfl, ?y24t0⟩) hS0 ?r24t0
              case y24t0 => (intro w' hSw; go_simp; try rfl)
              try simp only [Act.put, List.setIfInBounds_toArray, List.set_cons_zero, List.set_cons_succ, HK8.out, HKN.out, HRM.out, HBQ.out]
              refine' wpAnyH_take (i := 25) (oi := ⟨some 44, _, _, _, _, _⟩) (v := _) rfl (by kernel_rfl) (by kernel_rfl) (by kernel_rfl) (fun _ _ _ h => h) (Or.inl ⟨by rfl, ?y25t0⟩) hS0 ?r25t0
              case y25t0 => (intro w' hSw; go_simp; try rfl)
              try simp only [Act.put, List.setIfInBounds_toArray, List.set_cons_zero, List.set_cons_succ, HK8.out, HKN.out, HRM.out, HBQ.out]
              refine' wpAnyH_take (i := 26) (oi := ⟨some 45, _, _, _, _, _⟩) (v := _) rfl (by kernel_rfl) (by kernel_rfl) (by kernel_rfl) (fun _ _ _ h => h) (Or.inl ⟨by rfl, ?y26t0⟩) hS0 ?r26t0
              case y26t0 => (intro w' hSw; go_simp; try rfl)
              try simp only [Act.put, List.setIfInBounds_toArray, List.set_cons_zero, List.set_cons_succ, HK8.out, HKN.out, HRM.out, HBQ.out]
              refine' wpAnyH_take (i := 27) (oi := ⟨some 46, _, _, _, _, _⟩) (v := _) rfl (by kernel_rfl) (by kernel_rfl) (by kernel_rfl) (fun _ _ _ h => h) (Or.inl ⟨by rfl, ?y27t0⟩) hS0 ?r27t0
              case y27t0 => (intro w' hSw; go_simp; try rfl)
              try simp only [Act.put, List.setIfInBounds_toArray, List.set_cons_zero, List.set_cons_succ, HK8.out, HKN.out, HRM.out, HBQ.out]
              refine' wpAnyH_take (i := 19) (oi := ⟨some 38, _, _, _, _, _⟩) (v := .slice (some ⟨g, o, none⟩) n (c0 - (k + 8))) rfl (by kernel_rfl) (by kernel_rfl) (by kernel_rfl) (fun _ _ _ h => h) (Or.inl ⟨by rfl, ?y19t0⟩) hS0 ?r19t0
              case y19t0 => (intro w' hSw; go_simp; rw [if_pos ⟨by omega, by omega⟩, if_pos ⟨by omega, by omega⟩, HT8.out, if_pos HC8.out, HTN.out])
              try simp only [Act.put, List.setIfInBounds_toArray, List.set_cons_zero, List.set_cons_succ, HK8.out, HKN.out, HRM.out, HBQ.out]
              refine' wpAnyH_take (i := 28) (oi := ⟨some 47, _, _, _, _, _⟩) (v := .slice (some ⟨g, o + k, none⟩) (8 + n) (c0 - k)) rfl (by kernel_rfl) (by kernel_rfl) (by kernel_rfl) (fun _ _ _ h => h) (Or.inl ⟨by rfl, ?y28t0⟩) hS0 ?r28t0
              case y28t0 => (intro w' hSw; go_simp; rw [if_pos ⟨by omega, by omega⟩, if_pos (by omega), if_neg (by omega), HTN2.out])
              try simp only [Act.put, List.setIfInBounds_toArray, List.set_cons_zero, List.set_cons_succ, HK8.out, HKN.out, HRM.out, HBQ.out]
              refine' wpAnyH_take (i := 29) (oi := ⟨some 48, _, _, _, _, _⟩) (v := _) rfl (by kernel_rfl) (by kernel_rfl) (by kernel_rfl) (fun _ _ _ h => h) (Or.inl ⟨by rfl, ?y29t0⟩) hS0 ?r29t0
              case y29t0 => (intro w' hSw; have hcv := conv_w (HY.out.below (HB.out w' hSw)) HSY.out; go_simp; try rfl)
              try simp only [Act.put, List.setIfInBounds_toArray, List.set_cons_zero, List.set_cons_succ, HK8.out, HKN.out, HRM.out, HBQ.out]
              refine held_one (i := 20) (by kernel_rfl) rfl (fun Kt0 hK => ?_)
              go_simp
              refine (refRecord_any _ _ _ (HX.out.below (HB.out _ hS0)) HXL.out).mono ?_
              rintro e Z1 ⟨v1, rfl, ho1, hb1⟩
              obtain ⟨A1, n1, c1, rfl⟩ := ho1.shape
              have hS1 := hS0.trans (hb1.mono (Nat.le_trans hzz hS0.size))
              have HCV := Lib.hid (conv_w ho1.sl HSX.out)
              clear ho1 hb1
              refine hK.out _ _ hS1 (fun _ => ?_)
              clear hK Kt0
              try simp only [Act.put, List.setIfInBounds_toArray, List.set_cons_zero, List.set_cons_succ, HK8.out, HKN.out, HRM.out, HBQ.out]
              refine held_one (i := 21) (by kernel_rfl) rfl (fun Kt0 hK => ?_)
              have hcv := HCV.out
              go_simp
              refine hK.out _ _ hS1 (fun _ => ?_)
              clear hK Kt0
              try simp only [Act.put, List.setIfInBounds_toArray, List.set_cons_zero, List.set_cons_succ, HK8.out, HKN.out, HRM.out, HBQ.out]
              refine' wpAnyH_take (i := 30) (oi := ⟨some 49, _, _, _, _, _⟩) (v := _) rfl (by kernel_rfl) (by kernel_rfl) (by kernel_rfl) (fun _ _ _ h => h) (Or.inl ⟨by rfl, ?y30t0⟩) hS1 ?r30t0
              case y30t0 => (intro w' hSw; go_simp; try rfl)
              try simp only [Act.put, List.setIfInBounds_toArray, List.set_cons_zero, List.set_cons_succ, HK8.out, HKN.out, HRM.out, HBQ.out]
              refine' wpAnyH_take (i := 31) (oi := ⟨some 50, _, _, _, _, _⟩) (v := _) rfl (by kernel_rfl) (by kernel_rfl) (by kernel_rfl) (fun _ _ _ h => h) (Or.inl ⟨by rfl, ?y31t0⟩) hS1 ?r31t0
              case y31t0 => (intro w' hSw; go_simp; try rfl)
              try simp only [Act.put, List.setIfInBounds_toArray, List.set_cons_zero, List.set_cons_succ, HK8.out, HKN.out, HRM.out, HBQ.out]
              refine wpAnyH_done (by kernel_rfl) ?_ _
              have HZ := Lib.hid (HB.out _ hS1)
              clear hS1 hS0 HB HCV hzz HSX HSY hcv hbi HRM hrm
              obtain ⟨W2, hW2⟩ : ∃ W2, W2 = Z1.alloc (.cells #[.slice (some ⟨g, o, none⟩) n (c0 - (k + 8))] 22) := ⟨_, rfl⟩
              have hb12 : Below wr.heap.size wr W2 := by rw [hW2]; exact HZ.out.alloc HZ.out.size _
              have hcel : ∀ (j : Nat) (u : Value), [Value.slice (some ⟨g, o, none⟩) n (c0 - (k + 8))][j]? = some u → W2.cell? ((⟨Z1.heap.size, 0, none⟩ : Addr).add j) = some u := by
                intro j u hu
                have hj : j = 0 := by have := (List.getElem?_eq_some_iff.1 hu).1; simpa using this
                subst hj
                rw [add_plain, hW2, (Blk.new Z1 22 #[.slice (some ⟨g, o, none⟩) n (c0 - (k + 8))]).cell]
                simpa using hu
              have hone : ∀ u ∈ [Value.slice (some ⟨g, o, none⟩) n (c0 - (k + 8))], u.oneCell' = true := by intro u hu; obtain rfl := List.mem_singleton.1 hu; rfl
              have hrow2 := row_keep HALL.out.2.2.1 hb12
              have HO := Lib.hid (And.intro hrow2 (And.intro hcel (And.intro hone (And.intro (show pre.length + 1 ≤ maxLen by have := HALL.out.2.2.2.1; unfold maxLen; omega) (And.intro (show (pre.length + 1) * 24 ≤ 140737488355328 by have := HALL.out.2.2.2.1; omega) (show w.heap.size ≤ W2.heap.size from Nat.le_trans HALL.out.2.2.2.2.2.size hb12.size))))))
              have HB2 := Lib.hid (HALL.out.2.2.2.2.2.trans (hb12.mono HALL.out.2.2.2.2.2.size))
              have HW2 := Lib.hid hW2
              clear hrow2 hcel hone hb12 hW2
              have hx1 : 0 ≤ (k : Int) + 8 + (n : Int) ∧ (k : Int) + 8 + (n : Int) ≤ (c0 : Int) := by omega
              have hx2 : 0 ≤ (k : Int) + 8 ∧ (k : Int) + 8 ≤ max ((k : Int) + 8 + (n : Int)) 0 := by omega
              have hx3 := HT8.out
              have hx7 := HK8.out
              have hx8 := HKN.out
              have hx4 := HTN.out
              have hx5 : ∀ a b : Option Addr, (if c0 = k + 8 then a else b) = a := fun a b => if_pos HC8.out
              go_wp2_with (at_builtin; rw [← HW2.out]; go_loud (refine wpList_append_own_at _ rfl _ _ 27 rfl w.heap.size 22 i0 (.slice none 0 0) 1 24 Tryz.underlying27 hi hy0 hy1 hy2 rfl (by decide) (.slice Ar pre.length cr) pre.length (pre.map (·.1)) rfl HO.out.1 ⟨Z1.heap.size, 0, none⟩ 1 1 [.slice (some ⟨g, o, none⟩) n (c0 - (k + 8))] rfl rfl HO.out.2.1 HO.out.2.2.1 HO.out.2.2.2.1 HO.out.2.2.2.2.1 HO.out.2.2.2.2.2 ?_))
              intro v' w3 ho3 hg3 _ _
              have hb3 : Below w.heap.size w w3 := HB2.out.grown hg3 HB2.out.size (fun r e => by
                rcases HALL.out.2.2.1.2 with ⟨e2, _⟩ | ⟨gg, cap, cur, e2, hg, _⟩
                · rw [e2] at e; cases e
                · rw [e2] at e; injection e with e; subst e; exact hg)
              have HE := Lib.hid (And.intro ho3 hb3)
              obtain ⟨A3, c3, rfl⟩ := row_shape ho3
              clear ho3 hb3 hg3
              go_wp2
              go_roundw
              case rel =>
                obtain ⟨e1, e2, e3, e4, e5, e6⟩ := HALL.out
                refine ⟨pre ++ [(.slice (some ⟨g, o, none⟩) n (c0 - (k + 8)), X, k + (8 + n))], k + (8 + n), by go_num, by omega, by rw [endR_snoc], ?_, ?_, ?_, ?_, HE.out.2⟩
                · rw [List.map_append, List.append_assoc, ← e2, HST.out, ← HN.out, ← HXD.out, List.drop_drop]; rfl
                · have := HE.out.1; simpa using this
                · rw [List.length_append]; show pre.length + 1 ≤ _; omega
                · intro q hq
                  rcases List.mem_append.1 hq with hq | hq
                  · exact e5 q hq
                  · obtain rfl := List.mem_singleton.1 hq; exact HX0.out
              case measure => simp [intOf]; omega
          · have HC8 := Lib.hid (show k + 8 < c0 by omega)
            have HX := Lib.hid (show Sl wr (.slice (some ⟨g, o + (k + 8), none⟩) n (c0 - (k + 8))) X from by have := (HV.out.below HALL.out.2.2.2.2.2).midw (k + 8) n (c0 - (k + 8)) (by omega) (by omega); rw [HXD.out, List.drop_drop]; exact this)
            have HX0 := Lib.hid (show Sl w (.slice (some ⟨g, o + (k + 8), none⟩) n (c0 - (k + 8))) X from by have := HV.out.midw (k + 8) n (c0 - (k + 8)) (by omega) (by omega); rw [HXD.out, List.drop_drop]; exact this)
            clear hc8
            cases hok : okAt (b.drop k) with
            | false =>
              have HE := Lib.hid (HSTOP.out hok)
              have HBQ := Lib.hid (show (!sx.toList == sy.toList) = true by
                rw [ByteArray.toList_eq, ByteArray.toList_eq, Bool.not_eq_true', beq_eq_false_iff_ne]
                intro e
                have e2 : sx = sy := by
                  cases sx; cases sy; congr 1; exact Array.toList_inj.1 e
                rw [HREC.out.1 e2] at hok; cases hok)
              clear hok HREC HSTOP HOK
              go_wp2_with fail
              have HB := Lib.hid (show ∀ X, Below wr.heap.size wr.drew X → Below wr.heap.size wr X from fun X hX => (Below.refl _ _).drew.trans hX)
              refine wp_region_held_drew (S := fun X => Below wr.heap.size wr.drew X) hfo (Below.refl _ _) (fun hS0 => ?_)
              obtain ⟨Z0, hZ0⟩ : ∃ Z0, Z0 = wr.drew := ⟨_, rfl⟩
              have hzz : wr.heap.size ≤ Z0.heap.size := by rw [hZ0]; exact Nat.le_refl _
              rw [← hZ0] at hS0 HB ⊢
              clear hZ0
              refine' wpAnyH_take (i := 0) (oi := ⟨some 19, _, _, _, _, _⟩) (v := _) rfl (by kernel_rfl) (by kernel_rfl) (by kernel_rfl) (fun _ _ _ h => h) (Or.inl ⟨by rfl, ?y0f1⟩) hS0 ?r0f1
              case y0f1 => (intro w' hSw; go_simp; try rfl)
              try simp only [Act.put, List.setIfInBounds_toArray, List.set_cons_zero, List.set_cons_succ, HK8.out, HKN.out, HRM.out, HBQ.out]
              refine' wpAnyH_take (i := 1) (oi := ⟨some 20, _, _, _, _, _⟩) (v := _) rfl (by kernel_rfl) (by kernel_rfl) (by kernel_rfl) (fun _ _ _ h => h) (Or.inl ⟨by rfl, ?y1f1⟩) hS0 ?r1f1
              case y1f1 => (intro w' hSw; go_simp; try rfl)
              try simp only [Act.put, List.setIfInBounds_toArray, List.set_cons_zero, List.set_cons_succ, HK8.out, HKN.out, HRM.out, HBQ.out]
              refine' wpAnyH_take (i := 2) (oi := ⟨some 21, _, _, _, _, _⟩) (v := _) rfl (by kernel_rfl) (by kernel_rfl) (by kernel_rfl) (fun _ _ _ h => h) (Or.inl ⟨by rfl, ?y2f1⟩) hS0 ?r2f1
              case y2f1 => (intro w' hSw; go_simp; try rfl)
              try simp only [Act.put, List.setIfInBounds_toArray, List.set_cons_zero, List.set_cons_succ, HK8.out, HKN.out, HRM.out, HBQ.out]
              refine' wpAnyH_take (i := 3) (oi := ⟨some 22, _, _, _, _, _⟩) (v := _) rfl (by kernel_rfl) (by kernel_rfl) (by kernel_rfl) (fun _ _ _ h => h) (Or.inl ⟨by rfl, ?y3f1⟩) hS0 ?r3f1
              case y3f1 => (intro w' hSw; go_simp; try rfl)
              try simp only [Act.put, List.setIfInBounds_toArray, List.set_cons_zero, List.set_cons_succ, HK8.out, HKN.out, HRM.out, HBQ.out]
              refine' wpAnyH_take (i := 4) (oi := ⟨some 23, _, _, _, _, _⟩) (v := _) rfl (by kernel_rfl) (by kernel_rfl) (by kernel_rfl) (fun _ _ _ h => h) (Or.inl ⟨by rfl, ?y4f1⟩) hS0 ?r4f1
              case y4f1 => (intro w' hSw; go_simp; try rfl)
              try simp only [Act.put, List.setIfInBounds_toArray, List.set_cons_zero, List.set_cons_succ, HK8.out, HKN.out, HRM.out, HBQ.out]
              refine' wpAnyH_take (i := 5) (oi := ⟨some 24, _, _, _, _, _⟩) (v := _) rfl (by kernel_rfl) (by kernel_rfl) (by kernel_rfl) (fun _ _ _ h => h) (Or.inl ⟨by rfl, ?y5f1⟩) hS0 ?r5f1
              case y5f1 => (intro w' hSw; go_simp; try rfl)
              try simp only [Act.put, List.setIfInBounds_toArray, List.set_cons_zero, List.set_cons_succ, HK8.out, HKN.out, HRM.out, HBQ.out]
              refine' wpAnyH_take (i := 6) (oi := ⟨some 25, _, _, _, _, _⟩) (v := _) rfl (by kernel_rfl) (by kernel_rfl) (by kernel_rfl) (fun _ _ _ h => h) (Or.inl ⟨by rfl, ?y6f1⟩) hS0 ?r6f1
              case y6f1 => (intro w' hSw; go_simp; try rfl)
              try simp only [Act.put, List.setIfInBounds_toArray, List.set_cons_zero, List.set_cons_succ, HK8.out, HKN.out, HRM.out, HBQ.out]
              refine' wpAnyH_take (i := 7) (oi := ⟨some 26, _, _, _, _, _⟩) (v := _) rfl (by kernel_rfl) (by kernel_rfl) (by kernel_rfl) (fun _ _ _ h => h) (Or.inl ⟨by rfl, ?y7f1⟩) hS0 ?r7f1
              case y7f1 => (intro w' hSw; go_simp; try rfl)
              try simp only [Act.put, List.setIfInBounds_toArray, List.set_cons_zero, List.set_cons_succ, HK8.out, HKN.out, HRM.out, HBQ.out]
              refine' wpAnyH_take (i := 8) (oi := ⟨some 27, _, _, _, _, _⟩) (v := _) rfl (by kernel_rfl) (by kernel_rfl) (by kernel_rfl) (fun _ _ _ h => h) (Or.inl ⟨by rfl, ?y8f1⟩) hS0 ?r8f1
              case y8f1 => (intro w' hSw; go_simp; try rfl)
              try simp only [Act.put, List.setIfInBounds_toArray, List.set_cons_zero, List.set_cons_succ, HK8.out, HKN.out, HRM.out, HBQ.out]
              refine' wpAnyH_take (i := 9) (oi := ⟨some 28, _, _, _, _, _⟩) (v := _) rfl (by kernel_rfl) (by kernel_rfl) (by kernel_rfl) (fun _ _ _ h => h) (Or.inl ⟨by rfl, ?y9f1⟩) hS0 ?r9f1
              case y9f1 => (intro w' hSw; go_simp; try rfl)
              try simp only [Act.put, List.setIfInBounds_toArray, List.set_cons_zero, List.set_cons_succ, HK8.out, HKN.out, HRM.out, HBQ.out]
              refine' wpAnyH_take (i := 10) (oi := ⟨some 29, _, _, _, _, _⟩) (v := _) rfl (by kernel_rfl) (by kernel_rfl) (by kernel_rfl) (fun _ _ _ h => h) (Or.inl ⟨by rfl, ?y10f1⟩) hS0 ?r10f1
              case y10f1 => (intro w' hSw; go_simp; try rfl)
              try simp only [Act.put, List.setIfInBounds_toArray, List.set_cons_zero, List.set_cons_succ, HK8.out, HKN.out, HRM.out, HBQ.out]
              refine' wpAnyH_take (i := 11) (oi := ⟨some 30, _, _, _, _, _⟩) (v := _) rfl (by kernel_rfl) (by kernel_rfl) (by kernel_rfl) (fun _ _ _ h => h) (Or.inl ⟨by rfl, ?y11f1⟩) hS0 ?r11f1
              case y11f1 => (intro w' hSw; go_simp; try rfl)
              try simp only [Act.put, List.setIfInBounds_toArray, List.set_cons_zero, List.set_cons_succ, HK8.out, HKN.out, HRM.out, HBQ.out]
              refine' wpAnyH_take (i := 12) (oi := ⟨some 31, _, _, _, _, _⟩) (v := _) rfl (by kernel_rfl) (by kernel_rfl) (by kernel_rfl) (fun _ _ _ h => h) (Or.inl ⟨by rfl, ?y12f1⟩) hS0 ?r12f1
              case y12f1 => (intro w' hSw; go_simp; try rfl)
              try simp only [Act.put, List.setIfInBounds_toArray, List.set_cons_zero, List.set_cons_succ, HK8.out, HKN.out, HRM.out, HBQ.out]
              refine' wpAnyH_take (i := 13) (oi := ⟨some 32, _, _, _, _, _⟩) (v := _) rfl (by kernel_rfl) (by kernel_rfl) (by kernel_rfl) (fun _ _ _ h => h) (Or.inl ⟨by rfl, ?y13f1⟩) hS0 ?r13f1
              case y13f1 => (intro w' hSw; go_simp; try rfl)
              try simp only [Act.put, List.setIfInBounds_toArray, List.set_cons_zero, List.set_cons_succ, HK8.out, HKN.out, HRM.out, HBQ.out]
              refine' wpAnyH_take (i := 14) (oi := ⟨some 33, _, _, _, _, _⟩) (v := _) rfl (by kernel_rfl) (by kernel_rfl) (by kernel_rfl) (fun _ _ _ h => h) (Or.inl ⟨by rfl, ?y14f1⟩) hS0 ?r14f1
              case y14f1 => (intro w' hSw; go_simp; try rfl)
              try simp only [Act.put, List.setIfInBounds_toArray, List.set_cons_zero, List.set_cons_succ, HK8.out, HKN.out, HRM.out, HBQ.out]
              refine' wpAnyH_take (i := 15) (oi := ⟨some 34, _, _, _, _, _⟩) (v := _) rfl (by kernel_rfl) (by kernel_rfl) (by kernel_rfl) (fun _ _ _ h => h) (Or.inl ⟨by rfl, ?y15f1⟩) hS0 ?r15f1
              case y15f1 => (intro w' hSw; go_simp; try rfl)
              try simp only [Act.put, List.setIfInBounds_toArray, List.set_cons_zero, List.set_cons_succ, HK8.out, HKN.out, HRM.out, HBQ.out]
              refine' wpAnyH_take (i := 16) (oi := ⟨some 35, _, _, _, _, _⟩) (v := _) rfl (by kernel_rfl) (by kernel_rfl) (by kernel_rfl) (fun _ _ _ h => h) (Or.inl ⟨by rfl, ?y16f1⟩) hS0 ?r16f1
              case y16f1 => (intro w' hSw; go_simp; try rfl)
              try simp only [Act.put, List.setIfInBounds_toArray, List.set_cons_zero, List.set_cons_succ, HK8.out, HKN.out, HRM.out, HBQ.out]
              refine' wpAnyH_take (i := 17) (oi := ⟨some 36, _, _, _, _, _⟩) (v := _) rfl (by kernel_rfl) (by kernel_rfl) (by kernel_rfl) (fun _ _ _ h => h) (Or.inl ⟨by rfl, ?y17f1⟩) hS0 ?r17f1
              case y17f1 => (intro w' hSw; go_simp; try rfl)
              try simp only [Act.put, List.setIfInBounds_toArray, List.set_cons_zero, List.set_cons_succ, HK8.out, HKN.out, HRM.out, HBQ.out]
              refine' wpAnyH_take (i := 18) (oi := ⟨some 37, _, _, _, _, _⟩) (v := _) rfl (by kernel_rfl) (by kernel_rfl) (by kernel_rfl) (fun _ _ _ h => h) (Or.inl ⟨by rfl, ?y18f1⟩) hS0 ?r18f1
              case y18f1 => (intro w' hSw; go_simp; try rfl)
              try simp only [Act.put, List.setIfInBounds_toArray, List.set_cons_zero, List.set_cons_succ, HK8.out, HKN.out, HRM.out, HBQ.out]
              refine' wpAnyH_take (i := 22) (oi := ⟨some 41, _, _, _, _, _⟩) (v := _) rfl (by kernel_rfl) (by kernel_rfl) (by kernel_rfl) (fun _ _ _ h => h) (Or.inl ⟨by rfl, ?y22f1⟩) hS0 ?r22f1
              case y22f1 => (intro w' hSw; go_simp; try rfl)
              try simp only [Act.put, List.setIfInBounds_toArray, List.set_cons_zero, List.set_cons_succ, HK8.out, HKN.out, HRM.out, HBQ.out]
              refine' wpAnyH_take (i := 23) (oi := ⟨some 42, _, _, _, _, _⟩) (v := _) rfl (by kernel_rfl) (by kernel_rfl) (by kernel_rfl) (fun _ _ _ h => h) (Or.inl ⟨by rfl, ?y23f1⟩) hS0 ?r23f1
              case y23f1 => (intro w' hSw; go_simp; try rfl)
              try simp only [Act.put, List.setIfInBounds_toArray, List.set_cons_zero, List.set_cons_succ, HK8.out, HKN.out, HRM.out, HBQ.out]
              refine' wpAnyH_take (i := 24) (oi := ⟨some 43, _, _, _, _, _⟩) (v := _) rfl (by kernel_rfl) (by kernel_rfl) (by kernel_rfl) (fun _ _ _ h => h) (Or.inl ⟨by rfl, ?y24f1⟩) hS0 ?r24f1
              case y24f1 => (intro w' hSw; go_simp; try rfl)
              try simp only [Act.put, List.setIfInBounds_toArray, List.set_cons_zero, List.set_cons_succ, HK8.out, HKN.out, HRM.out, HBQ.out]
              refine' wpAnyH_take (i := 25) (oi := ⟨some 44, _, _, _, _, _⟩) (v := _) rfl (by kernel_rfl) (by kernel_rfl) (by kernel_rfl) (fun _ _ _ h => h) (Or.inl ⟨by rfl, ?y25f1⟩) hS0 ?r25f1
              case y25f1 => (intro w' hSw; go_simp; try rfl)
              try simp only [Act.put, List.setIfInBounds_toArray, List.set_cons_zero, List.set_cons_succ, HK8.out, HKN.out, HRM.out, HBQ.out]
              refine' wpAnyH_take (i := 26) (oi := ⟨some 45, _, _, _, _, _⟩) (v := _) rfl (by kernel_rfl) (by kernel_rfl) (by kernel_rfl) (fun _ _ _ h => h) (Or.inl ⟨by rfl, ?y26f1⟩) hS0 ?r26f1
              case y26f1 => (intro w' hSw; go_simp; try rfl)
              try simp only [Act.put, List.setIfInBounds_toArray, List.set_cons_zero, List.set_cons_succ, HK8.out, HKN.out, HRM.out, HBQ.out]
              refine' wpAnyH_take (i := 27) (oi := ⟨some 46, _, _, _, _, _⟩) (v := _) rfl (by kernel_rfl) (by kernel_rfl) (by kernel_rfl) (fun _ _ _ h => h) (Or.inl ⟨by rfl, ?y27f1⟩) hS0 ?r27f1
              case y27f1 => (intro w' hSw; go_simp; try rfl)
              try simp only [Act.put, List.setIfInBounds_toArray, List.set_cons_zero, List.set_cons_succ, HK8.out, HKN.out, HRM.out, HBQ.out]
              refine' wpAnyH_take (i := 19) (oi := ⟨some 38, _, _, _, _, _⟩) (v := .slice (some ⟨g, o + (k + 8), none⟩) n (c0 - (k + 8))) rfl (by kernel_rfl) (by kernel_rfl) (by kernel_rfl) (fun _ _ _ h => h) (Or.inl ⟨by rfl, ?y19f1⟩) hS0 ?r19f1
              case y19f1 => (intro w' hSw; go_simp; rw [if_pos ⟨by omega, by omega⟩, if_pos ⟨by omega, by omega⟩, HT8.out, if_neg (by have := HC8.out; omega), HTN.out])
              try simp only [Act.put, List.setIfInBounds_toArray, List.set_cons_zero, List.set_cons_succ, HK8.out, HKN.out, HRM.out, HBQ.out]
              refine' wpAnyH_take (i := 28) (oi := ⟨some 47, _, _, _, _, _⟩) (v := .slice (some ⟨g, o + k, none⟩) (8 + n) (c0 - k)) rfl (by kernel_rfl) (by kernel_rfl) (by kernel_rfl) (fun _ _ _ h => h) (Or.inl ⟨by rfl, ?y28f1⟩) hS0 ?r28f1
              case y28f1 => (intro w' hSw; go_simp; rw [if_pos ⟨by omega, by omega⟩, if_pos (by omega), if_neg (by omega), HTN2.out])
              try simp only [Act.put, List.setIfInBounds_toArray, List.set_cons_zero, List.set_cons_succ, HK8.out, HKN.out, HRM.out, HBQ.out]
              refine' wpAnyH_take (i := 29) (oi := ⟨some 48, _, _, _, _, _⟩) (v := _) rfl (by kernel_rfl) (by kernel_rfl) (by kernel_rfl) (fun _ _ _ h => h) (Or.inl ⟨by rfl, ?y29f1⟩) hS0 ?r29f1
              case y29f1 => (intro w' hSw; have hcv := conv_w (HY.out.below (HB.out w' hSw)) HSY.out; go_simp; try rfl)
              try simp only [Act.put, List.setIfInBounds_toArray, List.set_cons_zero, List.set_cons_succ, HK8.out, HKN.out, HRM.out, HBQ.out]
              refine held_one (i := 20) (by kernel_rfl) rfl (fun Kf1 hK => ?_)
              go_simp
              refine (refRecord_any _ _ _ (HX.out.below (HB.out _ hS0)) HXL.out).mono ?_
              rintro e Z1 ⟨v1, rfl, ho1, hb1⟩
              obtain ⟨A1, n1, c1, rfl⟩ := ho1.shape
              have hS1 := hS0.trans (hb1.mono (Nat.le_trans hzz hS0.size))
              have HCV := Lib.hid (conv_w ho1.sl HSX.out)
              clear ho1 hb1
              refine hK.out _ _ hS1 (fun _ => ?_)
              clear hK Kf1
              try simp only [Act.put, List.setIfInBounds_toArray, List.set_cons_zero, List.set_cons_succ, HK8.out, HKN.out, HRM.out, HBQ.out]
              refine held_one (i := 21) (by kernel_rfl) rfl (fun Kf1 hK => ?_)
              have hcv := HCV.out
              go_simp
              refine hK.out _ _ hS1 (fun _ => ?_)
              clear hK Kf1
              try simp only [Act.put, List.setIfInBounds_toArray, List.set_cons_zero, List.set_cons_succ, HK8.out, HKN.out, HRM.out, HBQ.out]
              refine' wpAnyH_take (i := 30) (oi := ⟨some 49, _, _, _, _, _⟩) (v := _) rfl (by kernel_rfl) (by kernel_rfl) (by kernel_rfl) (fun _ _ _ h => h) (Or.inl ⟨by rfl, ?y30f1⟩) hS1 ?r30f1
              case y30f1 => (intro w' hSw; go_simp; try rfl)
              try simp only [Act.put, List.setIfInBounds_toArray, List.set_cons_zero, List.set_cons_succ, HK8.out, HKN.out, HRM.out, HBQ.out]
              refine' wpAnyH_take (i := 31) (oi := ⟨some 50, _, _, _, _, _⟩) (v := _) rfl (by kernel_rfl) (by kernel_rfl) (by kernel_rfl) (fun _ _ _ h => h) (Or.inl ⟨by rfl, ?y31f1⟩) hS1 ?r31f1
              case y31f1 => (intro w' hSw; go_simp; try rfl)
              try simp only [Act.put, List.setIfInBounds_toArray, List.set_cons_zero, List.set_cons_succ, HK8.out, HKN.out, HRM.out, HBQ.out]
              refine wpAnyH_done (by kernel_rfl) ?_ _
              have HZ := Lib.hid (HB.out _ hS1)
              clear hS1 hS0 HB HCV hzz HSX HSY hcv hbi HRM hrm
              go_wp2
              go_ret2
              exact HE.out _ HZ.out
            | true =>
              obtain rfl := HREC.out.2 hok
              have HBQ := Lib.hid (show (!sx.toList == sx.toList) = false by simp)
              have HST := Lib.hid (whole_step (b.drop k) k hok)
              clear hok HREC HSTOP HOK
              go_wp2_with fail
              have HB := Lib.hid (show ∀ X, Below wr.heap.size wr.drew X → Below wr.heap.size wr X from fun X hX => (Below.refl _ _).drew.trans hX)
              refine wp_region_held_drew (S := fun X => Below wr.heap.size wr.drew X) hfo (Below.refl _ _) (fun hS0 => ?_)
              obtain ⟨Z0, hZ0⟩ : ∃ Z0, Z0 = wr.drew := ⟨_, rfl⟩
              have hzz : wr.heap.size ≤ Z0.heap.size := by rw [hZ0]; exact Nat.le_refl _
              rw [← hZ0] at hS0 HB ⊢
              clear hZ0
              refine' wpAnyH_take (i := 0) (oi := ⟨some 19, _, _, _, _, _⟩) (v := _) rfl (by kernel_rfl) (by kernel_rfl) (by kernel_rfl) (fun _ _ _ h => h) (Or.inl ⟨by rfl, ?y0t1⟩) hS0 ?r0t1
              case y0t1 => (intro w' hSw; go_simp; try rfl)
              try simp only [Act.put, List.setIfInBounds_toArray, List.set_cons_zero, List.set_cons_succ, HK8.out, HKN.out, HRM.out, HBQ.out]
              refine' wpAnyH_take (i := 1) (oi := ⟨some 20, _, _, _, _, _⟩) (v := _) rfl (by kernel_rfl) (by kernel_rfl) (by kernel_rfl) (fun _ _ _ h => h) (Or.inl ⟨by rfl, ?y1t1⟩) hS0 ?r1t1
              case y1t1 => (intro w' hSw; go_simp; try rfl)
              try simp only [Act.put, List.setIfInBounds_toArray, List.set_cons_zero, List.set_cons_succ, HK8.out, HKN.out, HRM.out, HBQ.out]
              refine' wpAnyH_take (i := 2) (oi := ⟨some 21, _, _, _, _, _⟩) (v := _) rfl (by kernel_rfl) (by kernel_rfl) (by kernel_rfl) (fun _ _ _ h => h) (Or.inl ⟨by rfl, ?y2t1⟩) hS0 ?r2t1
              case y2t1 => (intro w' hSw; go_simp; try rfl)
              try simp only [Act.put, List.setIfInBounds_toArray, List.set_cons_zero, List.set_cons_succ, HK8.out, HKN.out, HRM.out, HBQ.out]
              refine' wpAnyH_take (i := 3) (oi := ⟨some 22, _, _, _, _, _⟩) (v := _) rfl (by kernel_rfl) (by kernel_rfl) (by kernel_rfl) (fun _ _ _ h => h) (Or.inl ⟨by rfl, ?y3t1⟩) hS0 ?r3t1
              case y3t1 => (intro w' hSw; go_simp; try rfl)
              try simp only [Act.put, List.setIfInBounds_toArray, List.set_cons_zero, List.set_cons_succ, HK8.out, HKN.out, HRM.out, HBQ.out]
              refine' wpAnyH_take (i := 4) (oi := ⟨some 23, _, _, _, _, _⟩) (v := _) rfl (by kernel_rfl) (by kernel_rfl) (by kernel_rfl) (fun _ _ _ h => h) (Or.inl ⟨by rfl, ?y4t1⟩) hS0 ?r4t1
              case y4t1 => (intro w' hSw; go_simp; try rfl)
              try simp only [Act.put, List.setIfInBounds_toArray, List.set_cons_zero, List.set_cons_succ, HK8.out, HKN.out, HRM.out, HBQ.out]
              refine' wpAnyH_take (i := 5) (oi := ⟨some 24, _, _, _, _, _⟩) (v := _) rfl (by kernel_rfl) (by kernel_rfl) (by kernel_rfl) (fun _ _ _ h => h) (Or.inl ⟨by rfl, ?y5t1⟩) hS0 ?r5t1
              case y5t1 => (intro w' hSw; go_simp; try rfl)
              try simp only [Act.put, List.setIfInBounds_toArray, List.set_cons_zero, List.set_cons_succ, HK8.out, HKN.out, HRM.out, HBQ.out]
              refine' wpAnyH_take (i := 6) (oi := ⟨some 25, _, _, _, _, _⟩) (v := _) rfl (by kernel_rfl) (by kernel_rfl) (by kernel_rfl) (fun _ _ _ h => h) (Or.inl ⟨by rfl, ?y6t1⟩) hS0 ?r6t1
              case y6t1 => (intro w' hSw; go_simp; try rfl)
              try simp only [Act.put, List.setIfInBounds_toArray, List.set_cons_zero, List.set_cons_succ, HK8.out, HKN.out, HRM.out, HBQ.out]
              refine' wpAnyH_take (i := 7) (oi := ⟨some 26, _, _, _, _, _⟩) (v := _) rfl (by kernel_rfl) (by kernel_rfl) (by kernel_rfl) (fun _ _ _ h => h) (Or.inl ⟨by rfl, ?y7t1⟩) hS0 ?r7t1
              case y7t1 => (intro w' hSw; go_simp; try rfl)
              try simp only [Act.put, List.setIfInBounds_toArray, List.set_cons_zero, List.set_cons_succ, HK8.out, HKN.out, HRM.out, HBQ.out]
              refine' wpAnyH_take (i := 8) (oi := ⟨some 27, _, _, _, _, _⟩) (v := _) rfl (by kernel_rfl) (by kernel_rfl) (by kernel_rfl) (fun _ _ _ h => h) (Or.inl ⟨by rfl, ?y8t1⟩) hS0 ?r8t1
              case y8t1 => (intro w' hSw; go_simp; try rfl)
              try simp only [Act.put, List.setIfInBounds_toArray, List.set_cons_zero, List.set_cons_succ, HK8.out, HKN.out, HRM.out, HBQ.out]
              refine' wpAnyH_take (i := 9) (oi := ⟨some 28, _, _, _, _, _⟩) (v := _) rfl (by kernel_rfl) (by kernel_rfl) (by kernel_rfl) (fun _ _ _ h => h) (Or.inl ⟨by rfl, ?y9t1⟩) hS0 ?r9t1
              case y9t1 => (intro w' hSw; go_simp; try rfl)
              try simp only [Act.put, List.setIfInBounds_toArray, List.set_cons_zero, List.set_cons_succ, HK8.out, HKN.out, HRM.out, HBQ.out]
              refine' wpAnyH_take (i := 10) (oi := ⟨some 29, _, _, _, _, _⟩) (v := _) rfl (by kernel_rfl) (by kernel_rfl) (by kernel_rfl) (fun _ _ _ h => h) (Or.inl ⟨by rfl, ?y10t1⟩) hS0 ?r10t1
              case y10t1 => (intro w' hSw; go_simp; try rfl)
              try simp only [Act.put, List.setIfInBounds_toArray, List.set_cons_zero, List.set_cons_succ, HK8.out, HKN.out, HRM.out, HBQ.out]
              refine' wpAnyH_take (i := 11) (oi := ⟨some 30, _, _, _, _, _⟩) (v := _) rfl (by kernel_rfl) (by kernel_rfl) (by kernel_rfl) (fun _ _ _ h => h) (Or.inl ⟨by rfl, ?y11t1⟩) hS0 ?r11t1
              case y11t1 => (intro w' hSw; go_simp; try rfl)
              try simp only [Act.put, List.setIfInBounds_toArray, List.set_cons_zero, List.set_cons_succ, HK8.out, HKN.out, HRM.out, HBQ.out]
              refine' wpAnyH_take (i := 12) (oi := ⟨some 31, _, _, _, _, _⟩) (v := _) rfl (by kernel_rfl) (by kernel_rfl) (by kernel_rfl) (fun _ _ _ h => h) (Or.inl ⟨by rfl, ?y12t1⟩) hS0 ?r12t1
              case y12t1 => (intro w' hSw; go_simp; try rfl)
              try simp only [Act.put, List.setIfInBounds_toArray, List.set_cons_zero, List.set_cons_succ, HK8.out, HKN.out, HRM.out, HBQ.out]
              refine' wpAnyH_take (i := 13) (oi := ⟨some 32, _, _, _, _, _⟩) (v := _) rfl (by kernel_rfl) (by kernel_rfl) (by kernel_rfl) (fun _ _ _ h => h) (Or.inl ⟨by rfl, ?y13t1⟩) hS0 ?r13t1
              case y13t1 => (intro w' hSw; go_simp; try rfl)
              try simp only [Act.put, List.setIfInBounds_toArray, List.set_cons_zero, List.set_cons_succ, HK8.out, HKN.out, HRM.out, HBQ.out]
              refine' wpAnyH_take (i := 14) (oi := ⟨some 33, _, _, _, _, _⟩) (v := _) rfl (by kernel_rfl) (by kernel_rfl) (by kernel_rfl) (fun _ _ _ h => h) (Or.inl ⟨by rfl, ?y14t1⟩) hS0 ?r14t1
              case y14t1 => (intro w' hSw; go_simp; try rfl)
              try simp only [Act.put, List.setIfInBounds_toArray, List.set_cons_zero, List.set_cons_succ, HK8.out, HKN.out, HRM.out, HBQ.out]
              refine' wpAnyH_take (i := 15) (oi := ⟨some 34, _, _, _, _, _⟩) (v := _) rfl (by kernel_rfl) (by kernel_rfl) (by kernel_rfl) (fun _ _ _ h => h) (Or.inl ⟨by rfl, ?y15t1⟩) hS0 ?r15t1
              case y15t1 => (intro w' hSw; go_simp; try rfl)
              try simp only [Act.put, List.setIfInBounds_toArray, List.set_cons_zero, List.set_cons_succ, HK8.out, HKN.out, HRM.out, HBQ.out]
              refine' wpAnyH_take (i := 16) (oi := ⟨some 35, _, _, _, _, _⟩) (v := _) rfl (by kernel_rfl) (by kernel_rfl) (by kernel_rfl) (fun _ _ _ h => h) (Or.inl ⟨by rfl, ?y16t1⟩) hS0 ?r16t1
              case y16t1 => (intro w' hSw; go_simp; try rfl)
              try simp only [Act.put, List.setIfInBounds_toArray, List.set_cons_zero, List.set_cons_succ, HK8.out, HKN.out, HRM.out, HBQ.out]
              refine' wpAnyH_take (i := 17) (oi := ⟨some 36, _, _, _, _, _⟩) (v := _) rfl (by kernel_rfl) (by kernel_rfl) (by kernel_rfl) (fun _ _ _ h => h) (Or.inl ⟨by rfl, ?y17t1⟩) hS0 ?r17t1
              case y17t1 => (intro w' hSw; go_simp; try rfl)
              try simp only [Act.put, List.setIfInBounds_toArray, List.set_cons_zero, List.set_cons_succ, HK8.out, HKN.out, HRM.out, HBQ.out]
              refine' wpAnyH_take (i := 18) (oi := ⟨some 37, _, _, _, _, _⟩) (v := _) rfl (by kernel_rfl) (by kernel_rfl) (by kernel_rfl) (fun _ _ _ h => h) (Or.inl ⟨by rfl, ?y18t1⟩) hS0 ?r18t1
              case y18t1 => (intro w' hSw; go_simp; try rfl)
              try simp only [Act.put, List.setIfInBounds_toArray, List.set_cons_zero, List.set_cons_succ, HK8.out, HKN.out, HRM.out, HBQ.out]
              refine' wpAnyH_take (i := 22) (oi := ⟨some 41, _, _, _, _, _⟩) (v := _) rfl (by kernel_rfl) (by kernel_rfl) (by kernel_rfl) (fun _ _ _ h => h) (Or.inl ⟨by rfl, ?y22t1⟩) hS0 ?r22t1
              case y22t1 => (intro w' hSw; go_simp; try rfl)
              try simp only [Act.put, List.setIfInBounds_toArray, List.set_cons_zero, List.set_cons_succ, HK8.out, HKN.out, HRM.out, HBQ.out]
              refine' wpAnyH_take (i := 23) (oi := ⟨some 42, _, _, _, _, _⟩) (v := _) rfl (by kernel_rfl) (by kernel_rfl) (by kernel_rfl) (fun _ _ _ h => h) (Or.inl ⟨by rfl, ?y23t1⟩) hS0 ?r23t1
              case y23t1 => (intro w' hSw; go_simp; try rfl)
              try simp only [Act.put, List.setIfInBounds_toArray, List.set_cons_zero, List.set_cons_succ, HK8.out, HKN.out, HRM.out, HBQ.out]
              refine' wpAnyH_take (i := 24) (oi := ⟨some 43, _, _, _, _, _⟩) (v := _) rfl (by kernel_rfl) (by kernel_rfl) (by kernel_rfl) (fun _ _ _ h => h) (Or.inl ⟨by rfl, ?y24t1⟩) hS0 ?r24t1
              case y24t1 => (intro w' hSw; go_simp; try rfl)
              try simp only [Act.put, List.setIfInBounds_toArray, List.set_cons_zero, List.set_cons_succ, HK8.out, HKN.out, HRM.out, HBQ.out]
              refine' wpAnyH_take (i := 25) (oi := ⟨some 44, _, _, _, _, _⟩) (v := _) rfl (by kernel_rfl) (by kernel_rfl) (by kernel_rfl) (fun _ _ _ h => h) (Or.inl ⟨by rfl, ?y25t1⟩) hS0 ?r25t1
              case y25t1 => (intro w' hSw; go_simp; try rfl)
              try simp only [Act.put, List.setIfInBounds_toArray, List.set_cons_zero, List.set_cons_succ, HK8.out, HKN.out, HRM.out, HBQ.out]
              refine' wpAnyH_take (i := 26) (oi := ⟨some 45, _, _, _, _, _⟩) (v := _) rfl (by kernel_rfl) (by kernel_rfl) (by kernel_rfl) (fun _ _ _ h => h) (Or.inl ⟨by rfl, ?y26t1⟩) hS0 ?r26t1
              case y26t1 => (intro w' hSw; go_simp; try rfl)
              try simp only [Act.put, List.setIfInBounds_toArray, List.set_cons_zero, List.set_cons_succ, HK8.out, HKN.out, HRM.out, HBQ.out]
              refine' wpAnyH_take (i := 27) (oi := ⟨some 46, _, _, _, _, _⟩) (v := _) rfl (by kernel_rfl) (by kernel_rfl) (by kernel_rfl) (fun _ _ _ h => h) (Or.inl ⟨by rfl, ?y27t1⟩) hS0 ?r27t1
              case y27t1 => (intro w' hSw; go_simp; try rfl)
              try simp only [Act.put, List.setIfInBounds_toArray, List.set_cons_zero, List.set_cons_succ, HK8.out, HKN.out, HRM.out, HBQ.out]
              refine' wpAnyH_take (i := 19) (oi := ⟨some 38, _, _, _, _, _⟩) (v := .slice (some ⟨g, o + (k + 8), none⟩) n (c0 - (k + 8))) rfl (by kernel_rfl) (by kernel_rfl) (by kernel_rfl) (fun _ _ _ h => h) (Or.inl ⟨by rfl, ?y19t1⟩) hS0 ?r19t1
              case y19t1 => (intro w' hSw; go_simp; rw [if_pos ⟨by omega, by omega⟩, if_pos ⟨by omega, by omega⟩, HT8.out, if_neg (by have := HC8.out; omega), HTN.out])
              try simp only [Act.put, List.setIfInBounds_toArray, List.set_cons_zero, List.set_cons_succ, HK8.out, HKN.out, HRM.out, HBQ.out]
              refine' wpAnyH_take (i := 28) (oi := ⟨some 47, _, _, _, _, _⟩) (v := .slice (some ⟨g, o + k, none⟩) (8 + n) (c0 - k)) rfl (by kernel_rfl) (by kernel_rfl) (by kernel_rfl) (fun _ _ _ h => h) (Or.inl ⟨by rfl, ?y28t1⟩) hS0 ?r28t1
              case y28t1 => (intro w' hSw; go_simp; rw [if_pos ⟨by omega, by omega⟩, if_pos (by omega), if_neg (by omega), HTN2.out])
              try simp only [Act.put, List.setIfInBounds_toArray, List.set_cons_zero, List.set_cons_succ, HK8.out, HKN.out, HRM.out, HBQ.out]
              refine' wpAnyH_take (i := 29) (oi := ⟨some 48, _, _, _, _, _⟩) (v := _) rfl (by kernel_rfl) (by kernel_rfl) (by kernel_rfl) (fun _ _ _ h => h) (Or.inl ⟨by rfl, ?y29t1⟩) hS0 ?r29t1
              case y29t1 => (intro w' hSw; have hcv := conv_w (HY.out.below (HB.out w' hSw)) HSY.out; go_simp; try rfl)
              try simp only [Act.put, List.setIfInBounds_toArray, List.set_cons_zero, List.set_cons_succ, HK8.out, HKN.out, HRM.out, HBQ.out]
              refine held_one (i := 20) (by kernel_rfl) rfl (fun Kt1 hK => ?_)
              go_simp
              refine (refRecord_any _ _ _ (HX.out.below (HB.out _ hS0)) HXL.out).mono ?_
              rintro e Z1 ⟨v1, rfl, ho1, hb1⟩
              obtain ⟨A1, n1, c1, rfl⟩ := ho1.shape
              have hS1 := hS0.trans (hb1.mono (Nat.le_trans hzz hS0.size))
              have HCV := Lib.hid (conv_w ho1.sl HSX.out)
              clear ho1 hb1
              refine hK.out _ _ hS1 (fun _ => ?_)
              clear hK Kt1
              try simp only [Act.put, List.setIfInBounds_toArray, List.set_cons_zero, List.set_cons_succ, HK8.out, HKN.out, HRM.out, HBQ.out]
              refine held_one (i := 21) (by kernel_rfl) rfl (fun Kt1 hK => ?_)
              have hcv := HCV.out
              go_simp
              refine hK.out _ _ hS1 (fun _ => ?_)
              clear hK Kt1
              try simp only [Act.put, List.setIfInBounds_toArray, List.set_cons_zero, List.set_cons_succ, HK8.out, HKN.out, HRM.out, HBQ.out]
              refine' wpAnyH_take (i := 30) (oi := ⟨some 49, _, _, _, _, _⟩) (v := _) rfl (by kernel_rfl) (by kernel_rfl) (by kernel_rfl) (fun _ _ _ h => h) (Or.inl ⟨by rfl, ?y30t1⟩) hS1 ?r30t1
              case y30t1 => (intro w' hSw; go_simp; try rfl)
              try simp only [Act.put, List.setIfInBounds_toArray, List.set_cons_zero, List.set_cons_succ, HK8.out, HKN.out, HRM.out, HBQ.out]
              refine' wpAnyH_take (i := 31) (oi := ⟨some 50, _, _, _, _, _⟩) (v := _) rfl (by kernel_rfl) (by kernel_rfl) (by kernel_rfl) (fun _ _ _ h => h) (Or.inl ⟨by rfl, ?y31t1⟩) hS1 ?r31t1
              case y31t1 => (intro w' hSw; go_simp; try rfl)
              try simp only [Act.put, List.setIfInBounds_toArray, List.set_cons_zero, List.set_cons_succ, HK8.out, HKN.out, HRM.out, HBQ.out]
              refine wpAnyH_done (by kernel_rfl) ?_ _
              have HZ := Lib.hid (HB.out _ hS1)
              clear hS1 hS0 HB HCV hzz HSX HSY hcv hbi HRM hrm
              obtain ⟨W2, hW2⟩ : ∃ W2, W2 = Z1.alloc (.cells #[.slice (some ⟨g, o + (k + 8), none⟩) n (c0 - (k + 8))] 22) := ⟨_, rfl⟩
              have hb12 : Below wr.heap.size wr W2 := by rw [hW2]; exact HZ.out.alloc HZ.out.size _
              have hcel : ∀ (j : Nat) (u : Value), [Value.slice (some ⟨g, o + (k + 8), none⟩) n (c0 - (k + 8))][j]? = some u → W2.cell? ((⟨Z1.heap.size, 0, none⟩ : Addr).add j) = some u := by
                intro j u hu
                have hj : j = 0 := by have := (List.getElem?_eq_some_iff.1 hu).1; simpa using this
                subst hj
                rw [add_plain, hW2, (Blk.new Z1 22 #[.slice (some ⟨g, o + (k + 8), none⟩) n (c0 - (k + 8))]).cell]
                simpa using hu
              have hone : ∀ u ∈ [Value.slice (some ⟨g, o + (k + 8), none⟩) n (c0 - (k + 8))], u.oneCell' = true := by intro u hu; obtain rfl := List.mem_singleton.1 hu; rfl
              have hrow2 := row_keep HALL.out.2.2.1 hb12
              have HO := Lib.hid (And.intro hrow2 (And.intro hcel (And.intro hone (And.intro (show pre.length + 1 ≤ maxLen by have := HALL.out.2.2.2.1; unfold maxLen; omega) (And.intro (show (pre.length + 1) * 24 ≤ 140737488355328 by have := HALL.out.2.2.2.1; omega) (show w.heap.size ≤ W2.heap.size from Nat.le_trans HALL.out.2.2.2.2.2.size hb12.size))))))
              have HB2 := Lib.hid (HALL.out.2.2.2.2.2.trans (hb12.mono HALL.out.2.2.2.2.2.size))
              have HW2 := Lib.hid hW2
              clear hrow2 hcel hone hb12 hW2
              have hx1 : 0 ≤ (k : Int) + 8 + (n : Int) ∧ (k : Int) + 8 + (n : Int) ≤ (c0 : Int) := by omega
              have hx2 : 0 ≤ (k : Int) + 8 ∧ (k : Int) + 8 ≤ max ((k : Int) + 8 + (n : Int)) 0 := by omega
              have hx3 := HT8.out
              have hx7 := HK8.out
              have hx8 := HKN.out
              have hx4 := HTN.out
              have hx5 := HC8.out
              have hx6 : ¬ c0 = k + 8 := by omega
              go_wp2_with (at_builtin; rw [← HW2.out]; go_loud (refine wpList_append_own_at _ rfl _ _ 27 rfl w.heap.size 22 i0 (.slice none 0 0) 1 24 Tryz.underlying27 hi hy0 hy1 hy2 rfl (by decide) (.slice Ar pre.length cr) pre.length (pre.map (·.1)) rfl HO.out.1 ⟨Z1.heap.size, 0, none⟩ 1 1 [.slice (some ⟨g, o + (k + 8), none⟩) n (c0 - (k + 8))] rfl rfl HO.out.2.1 HO.out.2.2.1 HO.out.2.2.2.1 HO.out.2.2.2.2.1 HO.out.2.2.2.2.2 ?_))
              intro v' w3 ho3 hg3 _ _
              have hb3 : Below w.heap.size w w3 := HB2.out.grown hg3 HB2.out.size (fun r e => by
                rcases HALL.out.2.2.1.2 with ⟨e2, _⟩ | ⟨gg, cap, cur, e2, hg, _⟩
                · rw [e2] at e; cases e
                · rw [e2] at e; injection e with e; subst e; exact hg)
              have HE := Lib.hid (And.intro ho3 hb3)
              obtain ⟨A3, c3, rfl⟩ := row_shape ho3
              clear ho3 hb3 hg3
              go_wp2
              go_roundw
              case rel =>
                obtain ⟨e1, e2, e3, e4, e5, e6⟩ := HALL.out
                refine ⟨pre ++ [(.slice (some ⟨g, o + (k + 8), none⟩) n (c0 - (k + 8)), X, k + (8 + n))], k + (8 + n), by go_num, by omega, by rw [endR_snoc], ?_, ?_, ?_, ?_, HE.out.2⟩
                · rw [List.map_append, List.append_assoc, ← e2, HST.out, ← HN.out, ← HXD.out, List.drop_drop]; rfl
                · have := HE.out.1; simpa using this
                · rw [List.length_append]; show pre.length + 1 ≤ _; omega
                · intro q hq
                  rcases List.mem_append.1 hq with hq | hq
                  · exact e5 q hq
                  · obtain rfl := List.mem_singleton.1 hq; exact HX0.out
              case measure => simp [intOf]; omega
          -- END
    · have HE := Lib.hid (show ∃ vr xs, Ending.returned (.tuple #[.slice Ar pre.length cr, .int .i64 (k : Int)]) = .returned (.tuple #[vr, .int .i64 (endR xs : Int)]) ∧ xs.map (·.2) = wholeP b ∧ wr.ownsRow w.heap.size 22 1 vr xs.length (xs.map (·.1)) ∧ (∀ x ∈ xs, Sl w x.1 x.2.1) ∧ Below w.heap.size w wr by
        obtain ⟨e1, e2, e3, e4, e5, e6⟩ := HALL.out
        have h0 : okAt (b.drop k) = false := by
          unfold okAt
          rw [List.length_drop, decide_eq_false (show ¬ 8 ≤ b.length - k by omega), Bool.false_and]
        rw [whole_end _ _ h0, List.append_nil] at e2
        exact ⟨_, pre, by rw [← e1], e2, e3, e5, e6⟩)
      have hi8 : (b.length : Int) < (k : Int) + 8 := by omega
      have hbl : (b.length : Int) ≤ 800000 := by omega
      clear HALL hb
      go_wp2
      go_ret2
      exact HE.out
end Go.Proofs.YtibifnknkphanaaGreatDoor

/-
  minsterref01.SameLists: are two lists of bytes the same?
-/
namespace Go.Proofs.YtibifnknkphanaaGreatDoor
open Go.RowKit Go.Maps
open DskM
set_option linter.unusedVariables false
set_option linter.unusedSimpArgs false
set_option maxRecDepth 20000
attribute [local go_sem] Oper.semAt_some

theorem bytes_beq (l m : List UInt8) : ((⟨l.toArray⟩ : ByteArray).toList == (⟨m.toArray⟩ : ByteArray).toList) = decide (l = m) := by
  rw [ByteArray.toList_eq, ByteArray.toList_eq]
  by_cases h : l = m
  · subst h; simp
  · rw [decide_eq_false h, beq_eq_false_iff_ne]; exact fun e => h (by simpa using e)
/-- A list of bytes in a row of the call's own. -/
theorem sls_own {w : World} {base : Nat} {v : Value} {xs : List Value} {ls : List (List UInt8)} (h : w.ownsRow base 22 1 v xs.length xs) (hn : xs.length = ls.length) (hx : ∀ j (h1 : j < xs.length) (h2 : j < ls.length), Sl w xs[j] ls[j]) : Sls w v ls := by
  rcases h.2 with ⟨e, h0⟩ | ⟨g, cap, cur, e, hg, hh, h1, h2, h3⟩
  · subst e
    have hl0 : ls.length = 0 := by omega
    exact ⟨none, 0, by rw [hl0], by omega, fun h => by omega⟩
  · subst e
    refine ⟨some ⟨g, 0, none⟩, cap, by rw [hn], by omega, fun _ => ⟨g, 0, rfl, fun j hj => ⟨xs[j]'(by omega), ?_, hx j (by omega) hj⟩⟩⟩
    have hj2 : j < xs.length := by omega
    rw [Nat.zero_add, (show Blk w g 22 cur from hh).cell]
    have h4 := h3.2
    have e : xs[j]? = cur[j]? := by rw [← h4, List.getElem?_take_of_lt (by omega), Array.getElem?_toList]
    rw [← e, List.getElem?_eq_getElem hj2]
set_option maxHeartbeats 4000000 in
theorem sameLists_any (v u : Value) (ls ms : List (List UInt8)) (w : World) (hv : Sls w v ls) (hu : Sls w u ms) (hl : ls.length ≤ 1000000) :
    Calls Tryz.prog 14 #[v, u] w fun e w' => e = .returned (.bool (decide (ls = ms))) ∧ Below w.heap.size w w' := by
  have hfo : Tryz.prog.follows .mixedOrders = true := by kernel_rfl
  obtain ⟨A, c, rfl, hc, ha⟩ := hv
  obtain ⟨A', c', rfl, hc', ha'⟩ := hu
  have HA := Lib.hid ha
  have HA' := Lib.hid ha'
  clear ha ha' hc hc'
  by_cases hlen : ls.length = ms.length
  · go_enter Tryz.func14, Tryz.ntmps14
    rw [← hlen]
    have HLEN := Lib.hid hlen
    clear hlen
    go_wp2
    go_loopw [5] (fun z wr => ∃ k : Nat, z = .int .i64 (k : Int) ∧ k ≤ ls.length ∧ ls.take k = ms.take k ∧ Below w.heap.size w wr) (fun z _ => ls.length - (intOf z).toNat)
    case atStart => exact ⟨0, rfl, Nat.zero_le _, rfl, Below.refl _ _⟩
    case round =>
      obtain ⟨k, rfl, hk, hpre, hb⟩ := hrel
      have HP := Lib.hid hpre
      have HBW := Lib.hid hb
      clear hpre hb
      by_cases hlt : k < ls.length
      · obtain ⟨g1, o1, rfl, hx1⟩ := HA.out (by omega)
        obtain ⟨g2, o2, rfl, hx2⟩ := HA'.out (by have := HLEN.out; omega)
        obtain ⟨x1, hc1, hs1⟩ := hx1 k hlt
        have hk2 : k < ms.length := by have := HLEN.out; omega
        obtain ⟨x2, hc2, hs2⟩ := hx2 k hk2
        have HC := Lib.hid (fun X (hX : Below w.heap.size w X) => And.intro ((hX.cell (World.block_lt_of_cell? w _ hc1)).trans hc1) ((hX.cell (World.block_lt_of_cell? w _ hc2)).trans hc2))
        have HS1 := Lib.hid hs1
        have HS2 := Lib.hid hs2
        obtain ⟨A1, n1, c1, rfl⟩ := hs1.shape
        obtain ⟨A2, n2, c2, rfl⟩ := hs2.shape
        have HSTEP := Lib.hid (show ls[k] = ms[k] → ls.take (k + 1) = ms.take (k + 1) from fun e => by rw [List.take_succ_eq_append_getElem hlt, List.take_succ_eq_append_getElem hk2, HP.out, e])
        have HNE := Lib.hid (show ls[k] ≠ ms[k] → ls ≠ ms from fun e e2 => e (by subst e2; rfl))
        obtain ⟨sx, hsx⟩ : ∃ sx : ByteArray, (⟨(ls[k]).toArray⟩ : ByteArray) = sx := ⟨_, rfl⟩
        obtain ⟨sy, hsy⟩ : ∃ sy : ByteArray, (⟨(ms[k]).toArray⟩ : ByteArray) = sy := ⟨_, rfl⟩
        have HBQ := Lib.hid (show (sx.toList == sy.toList) = decide (ls[k] = ms[k]) by rw [← hsx, ← hsy]; exact bytes_beq _ _)
        have HSX := Lib.hid hsx
        have HSY := Lib.hid hsy
        have hki : (k : Int) < (ls.length : Int) := by omega
        clear hsx hsy hx1 hx2 hc1 hc2 hs1 hs2 HP HA HA' HLEN
        have HBQ2 := Lib.hid (show ∀ q, decide (ls[k] = ms[k]) = q → (!sx.toList == sy.toList) = !q from fun q hq => by rw [HBQ.out, hq])
        clear HBQ
        cases hq : decide (ls[k] = ms[k]) with
        | false =>
          have HE := Lib.hid (show decide (ls = ms) = false from decide_eq_false (HNE.out (of_decide_eq_false hq)))
          have HQ := Lib.hid (HBQ2.out _ hq)
          clear hq HBQ2 HNE HSTEP
          go_wp2_with fail
          have HB := Lib.hid (show ∀ X, Below w.heap.size wr.drew X → Below w.heap.size w X from fun X hX => HBW.out.drew.trans hX)
          refine wp_region_held_drew (S := fun X => Below w.heap.size wr.drew X) hfo (Below.refl _ _) (fun hS0 => ?_)
          obtain ⟨Z0, hZ0⟩ : ∃ Z0, Z0 = wr.drew := ⟨_, rfl⟩
          rw [← hZ0] at hS0 HB ⊢
          clear hZ0
          refine' wpAnyH_take (i := 0) (oi := ⟨some 17, _, _, _, _, _⟩) (v := _) rfl (by kernel_rfl) (by kernel_rfl) (by kernel_rfl) (fun _ _ _ h => h) (Or.inl ⟨by rfl, ?y0f⟩) hS0 ?r0f
          case y0f => (intro w' hSw; obtain ⟨q1, q2⟩ := HC.out w' (HB.out w' hSw); have e1 := conv_w (HS1.out.below (HB.out w' hSw)) HSX.out; have e2 := conv_w (HS2.out.below (HB.out w' hSw)) HSY.out; go_simp; try rfl)
          try simp only [Act.put, List.setIfInBounds_toArray, List.set_cons_zero, List.set_cons_succ, HQ.out, Bool.not_true, Bool.not_false]
          refine' wpAnyH_take (i := 1) (oi := ⟨some 18, _, _, _, _, _⟩) (v := _) rfl (by kernel_rfl) (by kernel_rfl) (by kernel_rfl) (fun _ _ _ h => h) (Or.inl ⟨by rfl, ?y1f⟩) hS0 ?r1f
          case y1f => (intro w' hSw; obtain ⟨q1, q2⟩ := HC.out w' (HB.out w' hSw); have e1 := conv_w (HS1.out.below (HB.out w' hSw)) HSX.out; have e2 := conv_w (HS2.out.below (HB.out w' hSw)) HSY.out; go_simp; try rfl)
          try simp only [Act.put, List.setIfInBounds_toArray, List.set_cons_zero, List.set_cons_succ, HQ.out, Bool.not_true, Bool.not_false]
          refine' wpAnyH_take (i := 2) (oi := ⟨some 19, _, _, _, _, _⟩) (v := _) rfl (by kernel_rfl) (by kernel_rfl) (by kernel_rfl) (fun _ _ _ h => h) (Or.inl ⟨by rfl, ?y2f⟩) hS0 ?r2f
          case y2f => (intro w' hSw; obtain ⟨q1, q2⟩ := HC.out w' (HB.out w' hSw); have e1 := conv_w (HS1.out.below (HB.out w' hSw)) HSX.out; have e2 := conv_w (HS2.out.below (HB.out w' hSw)) HSY.out; go_simp; try rfl)
          try simp only [Act.put, List.setIfInBounds_toArray, List.set_cons_zero, List.set_cons_succ, HQ.out, Bool.not_true, Bool.not_false]
          refine' wpAnyH_take (i := 3) (oi := ⟨some 20, _, _, _, _, _⟩) (v := _) rfl (by kernel_rfl) (by kernel_rfl) (by kernel_rfl) (fun _ _ _ h => h) (Or.inl ⟨by rfl, ?y3f⟩) hS0 ?r3f
          case y3f => (intro w' hSw; obtain ⟨q1, q2⟩ := HC.out w' (HB.out w' hSw); have e1 := conv_w (HS1.out.below (HB.out w' hSw)) HSX.out; have e2 := conv_w (HS2.out.below (HB.out w' hSw)) HSY.out; go_simp; try rfl)
          try simp only [Act.put, List.setIfInBounds_toArray, List.set_cons_zero, List.set_cons_succ, HQ.out, Bool.not_true, Bool.not_false]
          refine' wpAnyH_take (i := 4) (oi := ⟨some 21, _, _, _, _, _⟩) (v := _) rfl (by kernel_rfl) (by kernel_rfl) (by kernel_rfl) (fun _ _ _ h => h) (Or.inl ⟨by rfl, ?y4f⟩) hS0 ?r4f
          case y4f => (intro w' hSw; obtain ⟨q1, q2⟩ := HC.out w' (HB.out w' hSw); have e1 := conv_w (HS1.out.below (HB.out w' hSw)) HSX.out; have e2 := conv_w (HS2.out.below (HB.out w' hSw)) HSY.out; go_simp; try rfl)
          try simp only [Act.put, List.setIfInBounds_toArray, List.set_cons_zero, List.set_cons_succ, HQ.out, Bool.not_true, Bool.not_false]
          refine' wpAnyH_take (i := 5) (oi := ⟨some 22, _, _, _, _, _⟩) (v := _) rfl (by kernel_rfl) (by kernel_rfl) (by kernel_rfl) (fun _ _ _ h => h) (Or.inl ⟨by rfl, ?y5f⟩) hS0 ?r5f
          case y5f => (intro w' hSw; obtain ⟨q1, q2⟩ := HC.out w' (HB.out w' hSw); have e1 := conv_w (HS1.out.below (HB.out w' hSw)) HSX.out; have e2 := conv_w (HS2.out.below (HB.out w' hSw)) HSY.out; go_simp; try rfl)
          try simp only [Act.put, List.setIfInBounds_toArray, List.set_cons_zero, List.set_cons_succ, HQ.out, Bool.not_true, Bool.not_false]
          refine' wpAnyH_take (i := 6) (oi := ⟨some 23, _, _, _, _, _⟩) (v := _) rfl (by kernel_rfl) (by kernel_rfl) (by kernel_rfl) (fun _ _ _ h => h) (Or.inl ⟨by rfl, ?y6f⟩) hS0 ?r6f
          case y6f => (intro w' hSw; obtain ⟨q1, q2⟩ := HC.out w' (HB.out w' hSw); have e1 := conv_w (HS1.out.below (HB.out w' hSw)) HSX.out; have e2 := conv_w (HS2.out.below (HB.out w' hSw)) HSY.out; go_simp; try rfl)
          try simp only [Act.put, List.setIfInBounds_toArray, List.set_cons_zero, List.set_cons_succ, HQ.out, Bool.not_true, Bool.not_false]
          refine' wpAnyH_take (i := 7) (oi := ⟨some 24, _, _, _, _, _⟩) (v := _) rfl (by kernel_rfl) (by kernel_rfl) (by kernel_rfl) (fun _ _ _ h => h) (Or.inl ⟨by rfl, ?y7f⟩) hS0 ?r7f
          case y7f => (intro w' hSw; obtain ⟨q1, q2⟩ := HC.out w' (HB.out w' hSw); have e1 := conv_w (HS1.out.below (HB.out w' hSw)) HSX.out; have e2 := conv_w (HS2.out.below (HB.out w' hSw)) HSY.out; go_simp; try rfl)
          try simp only [Act.put, List.setIfInBounds_toArray, List.set_cons_zero, List.set_cons_succ, HQ.out, Bool.not_true, Bool.not_false]
          refine' wpAnyH_take (i := 8) (oi := ⟨some 25, _, _, _, _, _⟩) (v := _) rfl (by kernel_rfl) (by kernel_rfl) (by kernel_rfl) (fun _ _ _ h => h) (Or.inl ⟨by rfl, ?y8f⟩) hS0 ?r8f
          case y8f => (intro w' hSw; obtain ⟨q1, q2⟩ := HC.out w' (HB.out w' hSw); have e1 := conv_w (HS1.out.below (HB.out w' hSw)) HSX.out; have e2 := conv_w (HS2.out.below (HB.out w' hSw)) HSY.out; go_simp; try rfl)
          try simp only [Act.put, List.setIfInBounds_toArray, List.set_cons_zero, List.set_cons_succ, HQ.out, Bool.not_true, Bool.not_false]
          refine' wpAnyH_take (i := 9) (oi := ⟨some 26, _, _, _, _, _⟩) (v := _) rfl (by kernel_rfl) (by kernel_rfl) (by kernel_rfl) (fun _ _ _ h => h) (Or.inl ⟨by rfl, ?y9f⟩) hS0 ?r9f
          case y9f => (intro w' hSw; obtain ⟨q1, q2⟩ := HC.out w' (HB.out w' hSw); have e1 := conv_w (HS1.out.below (HB.out w' hSw)) HSX.out; have e2 := conv_w (HS2.out.below (HB.out w' hSw)) HSY.out; go_simp; try rfl)
          try simp only [Act.put, List.setIfInBounds_toArray, List.set_cons_zero, List.set_cons_succ, HQ.out, Bool.not_true, Bool.not_false]
          refine' wpAnyH_take (i := 10) (oi := ⟨some 27, _, _, _, _, _⟩) (v := _) rfl (by kernel_rfl) (by kernel_rfl) (by kernel_rfl) (fun _ _ _ h => h) (Or.inl ⟨by rfl, ?y10f⟩) hS0 ?r10f
          case y10f => (intro w' hSw; obtain ⟨q1, q2⟩ := HC.out w' (HB.out w' hSw); have e1 := conv_w (HS1.out.below (HB.out w' hSw)) HSX.out; have e2 := conv_w (HS2.out.below (HB.out w' hSw)) HSY.out; go_simp; try rfl)
          try simp only [Act.put, List.setIfInBounds_toArray, List.set_cons_zero, List.set_cons_succ, HQ.out, Bool.not_true, Bool.not_false]
          refine wpAnyH_done (by kernel_rfl) ?_ _
          have HZ := Lib.hid (HB.out _ hS0)
          clear hS0 HB HSX HSY HC HQ
          go_wp2
          go_ret
          exact ⟨by rw [HE.out]; rfl, HZ.out⟩
        | true =>
          have HE := Lib.hid (HSTEP.out (of_decide_eq_true hq))
          have HQ := Lib.hid (HBQ2.out _ hq)
          clear hq HBQ2 HNE HSTEP
          go_wp2_with fail
          have HB := Lib.hid (show ∀ X, Below w.heap.size wr.drew X → Below w.heap.size w X from fun X hX => HBW.out.drew.trans hX)
          refine wp_region_held_drew (S := fun X => Below w.heap.size wr.drew X) hfo (Below.refl _ _) (fun hS0 => ?_)
          obtain ⟨Z0, hZ0⟩ : ∃ Z0, Z0 = wr.drew := ⟨_, rfl⟩
          rw [← hZ0] at hS0 HB ⊢
          clear hZ0
          refine' wpAnyH_take (i := 0) (oi := ⟨some 17, _, _, _, _, _⟩) (v := _) rfl (by kernel_rfl) (by kernel_rfl) (by kernel_rfl) (fun _ _ _ h => h) (Or.inl ⟨by rfl, ?y0t⟩) hS0 ?r0t
          case y0t => (intro w' hSw; obtain ⟨q1, q2⟩ := HC.out w' (HB.out w' hSw); have e1 := conv_w (HS1.out.below (HB.out w' hSw)) HSX.out; have e2 := conv_w (HS2.out.below (HB.out w' hSw)) HSY.out; go_simp; try rfl)
          try simp only [Act.put, List.setIfInBounds_toArray, List.set_cons_zero, List.set_cons_succ, HQ.out, Bool.not_true, Bool.not_false]
          refine' wpAnyH_take (i := 1) (oi := ⟨some 18, _, _, _, _, _⟩) (v := _) rfl (by kernel_rfl) (by kernel_rfl) (by kernel_rfl) (fun _ _ _ h => h) (Or.inl ⟨by rfl, ?y1t⟩) hS0 ?r1t
          case y1t => (intro w' hSw; obtain ⟨q1, q2⟩ := HC.out w' (HB.out w' hSw); have e1 := conv_w (HS1.out.below (HB.out w' hSw)) HSX.out; have e2 := conv_w (HS2.out.below (HB.out w' hSw)) HSY.out; go_simp; try rfl)
          try simp only [Act.put, List.setIfInBounds_toArray, List.set_cons_zero, List.set_cons_succ, HQ.out, Bool.not_true, Bool.not_false]
          refine' wpAnyH_take (i := 2) (oi := ⟨some 19, _, _, _, _, _⟩) (v := _) rfl (by kernel_rfl) (by kernel_rfl) (by kernel_rfl) (fun _ _ _ h => h) (Or.inl ⟨by rfl, ?y2t⟩) hS0 ?r2t
          case y2t => (intro w' hSw; obtain ⟨q1, q2⟩ := HC.out w' (HB.out w' hSw); have e1 := conv_w (HS1.out.below (HB.out w' hSw)) HSX.out; have e2 := conv_w (HS2.out.below (HB.out w' hSw)) HSY.out; go_simp; try rfl)
          try simp only [Act.put, List.setIfInBounds_toArray, List.set_cons_zero, List.set_cons_succ, HQ.out, Bool.not_true, Bool.not_false]
          refine' wpAnyH_take (i := 3) (oi := ⟨some 20, _, _, _, _, _⟩) (v := _) rfl (by kernel_rfl) (by kernel_rfl) (by kernel_rfl) (fun _ _ _ h => h) (Or.inl ⟨by rfl, ?y3t⟩) hS0 ?r3t
          case y3t => (intro w' hSw; obtain ⟨q1, q2⟩ := HC.out w' (HB.out w' hSw); have e1 := conv_w (HS1.out.below (HB.out w' hSw)) HSX.out; have e2 := conv_w (HS2.out.below (HB.out w' hSw)) HSY.out; go_simp; try rfl)
          try simp only [Act.put, List.setIfInBounds_toArray, List.set_cons_zero, List.set_cons_succ, HQ.out, Bool.not_true, Bool.not_false]
          refine' wpAnyH_take (i := 4) (oi := ⟨some 21, _, _, _, _, _⟩) (v := _) rfl (by kernel_rfl) (by kernel_rfl) (by kernel_rfl) (fun _ _ _ h => h) (Or.inl ⟨by rfl, ?y4t⟩) hS0 ?r4t
          case y4t => (intro w' hSw; obtain ⟨q1, q2⟩ := HC.out w' (HB.out w' hSw); have e1 := conv_w (HS1.out.below (HB.out w' hSw)) HSX.out; have e2 := conv_w (HS2.out.below (HB.out w' hSw)) HSY.out; go_simp; try rfl)
          try simp only [Act.put, List.setIfInBounds_toArray, List.set_cons_zero, List.set_cons_succ, HQ.out, Bool.not_true, Bool.not_false]
          refine' wpAnyH_take (i := 5) (oi := ⟨some 22, _, _, _, _, _⟩) (v := _) rfl (by kernel_rfl) (by kernel_rfl) (by kernel_rfl) (fun _ _ _ h => h) (Or.inl ⟨by rfl, ?y5t⟩) hS0 ?r5t
          case y5t => (intro w' hSw; obtain ⟨q1, q2⟩ := HC.out w' (HB.out w' hSw); have e1 := conv_w (HS1.out.below (HB.out w' hSw)) HSX.out; have e2 := conv_w (HS2.out.below (HB.out w' hSw)) HSY.out; go_simp; try rfl)
          try simp only [Act.put, List.setIfInBounds_toArray, List.set_cons_zero, List.set_cons_succ, HQ.out, Bool.not_true, Bool.not_false]
          refine' wpAnyH_take (i := 6) (oi := ⟨some 23, _, _, _, _, _⟩) (v := _) rfl (by kernel_rfl) (by kernel_rfl) (by kernel_rfl) (fun _ _ _ h => h) (Or.inl ⟨by rfl, ?y6t⟩) hS0 ?r6t
          case y6t => (intro w' hSw; obtain ⟨q1, q2⟩ := HC.out w' (HB.out w' hSw); have e1 := conv_w (HS1.out.below (HB.out w' hSw)) HSX.out; have e2 := conv_w (HS2.out.below (HB.out w' hSw)) HSY.out; go_simp; try rfl)
          try simp only [Act.put, List.setIfInBounds_toArray, List.set_cons_zero, List.set_cons_succ, HQ.out, Bool.not_true, Bool.not_false]
          refine' wpAnyH_take (i := 7) (oi := ⟨some 24, _, _, _, _, _⟩) (v := _) rfl (by kernel_rfl) (by kernel_rfl) (by kernel_rfl) (fun _ _ _ h => h) (Or.inl ⟨by rfl, ?y7t⟩) hS0 ?r7t
          case y7t => (intro w' hSw; obtain ⟨q1, q2⟩ := HC.out w' (HB.out w' hSw); have e1 := conv_w (HS1.out.below (HB.out w' hSw)) HSX.out; have e2 := conv_w (HS2.out.below (HB.out w' hSw)) HSY.out; go_simp; try rfl)
          try simp only [Act.put, List.setIfInBounds_toArray, List.set_cons_zero, List.set_cons_succ, HQ.out, Bool.not_true, Bool.not_false]
          refine' wpAnyH_take (i := 8) (oi := ⟨some 25, _, _, _, _, _⟩) (v := _) rfl (by kernel_rfl) (by kernel_rfl) (by kernel_rfl) (fun _ _ _ h => h) (Or.inl ⟨by rfl, ?y8t⟩) hS0 ?r8t
          case y8t => (intro w' hSw; obtain ⟨q1, q2⟩ := HC.out w' (HB.out w' hSw); have e1 := conv_w (HS1.out.below (HB.out w' hSw)) HSX.out; have e2 := conv_w (HS2.out.below (HB.out w' hSw)) HSY.out; go_simp; try rfl)
          try simp only [Act.put, List.setIfInBounds_toArray, List.set_cons_zero, List.set_cons_succ, HQ.out, Bool.not_true, Bool.not_false]
          refine' wpAnyH_take (i := 9) (oi := ⟨some 26, _, _, _, _, _⟩) (v := _) rfl (by kernel_rfl) (by kernel_rfl) (by kernel_rfl) (fun _ _ _ h => h) (Or.inl ⟨by rfl, ?y9t⟩) hS0 ?r9t
          case y9t => (intro w' hSw; obtain ⟨q1, q2⟩ := HC.out w' (HB.out w' hSw); have e1 := conv_w (HS1.out.below (HB.out w' hSw)) HSX.out; have e2 := conv_w (HS2.out.below (HB.out w' hSw)) HSY.out; go_simp; try rfl)
          try simp only [Act.put, List.setIfInBounds_toArray, List.set_cons_zero, List.set_cons_succ, HQ.out, Bool.not_true, Bool.not_false]
          refine' wpAnyH_take (i := 10) (oi := ⟨some 27, _, _, _, _, _⟩) (v := _) rfl (by kernel_rfl) (by kernel_rfl) (by kernel_rfl) (fun _ _ _ h => h) (Or.inl ⟨by rfl, ?y10t⟩) hS0 ?r10t
          case y10t => (intro w' hSw; obtain ⟨q1, q2⟩ := HC.out w' (HB.out w' hSw); have e1 := conv_w (HS1.out.below (HB.out w' hSw)) HSX.out; have e2 := conv_w (HS2.out.below (HB.out w' hSw)) HSY.out; go_simp; try rfl)
          try simp only [Act.put, List.setIfInBounds_toArray, List.set_cons_zero, List.set_cons_succ, HQ.out, Bool.not_true, Bool.not_false]
          refine wpAnyH_done (by kernel_rfl) ?_ _
          have HZ := Lib.hid (HB.out _ hS0)
          clear hS0 HB HSX HSY HC HQ
          go_wp2
          go_roundw
          case rel => exact ⟨k + 1, by go_num, by omega, HE.out, HZ.out⟩
          case measure => simp [intOf]; omega
      · obtain rfl : k = ls.length := by omega
        have HE := Lib.hid (show decide (ls = ms) = true from decide_eq_true (by have := HP.out; rw [List.take_length, HLEN.out, List.take_length] at this; exact this))
        clear HP HLEN
        go_wp2
        go_ret
        exact ⟨by rw [HE.out]; rfl, HBW.out⟩
  · have hne : ls ≠ ms := fun e => hlen (by rw [e])
    have hni : ¬ (ls.length : Int) = (ms.length : Int) := by omega
    have HE := Lib.hid (show decide (ls = ms) = false from decide_eq_false hne)
    clear hne hlen
    go_enter Tryz.func14, Tryz.ntmps14
    go_wp2
    go_ret
    exact ⟨by rw [HE.out]; rfl, Below.refl _ _⟩
end Go.Proofs.YtibifnknkphanaaGreatDoor

/-
  To whom an event goes, as cells; event's mayTo.
-/
import Derived.Test.YtigepbklpiilpaaEvB
namespace Go.Proofs.Ytigepbklpiilpaa
open Go.RowKit
open CtxM
set_option linter.unusedVariables false
set_option linter.unusedSimpArgs false
set_option maxRecDepth 20000

abbrev De := Dt × ByteArray
/-- The value v is a slice that reads as the dests T in the world w. -/
def Se (w : World) (v : Value) (T : List De) : Prop :=
  ∃ A c, v = .slice A T.length c ∧ T.length ≤ c ∧ (0 < T.length → ∃ b o, A = some ⟨b, o, none⟩ ∧ ∀ j (h : j < T.length), w.cell? ⟨b, o + j * 3, none⟩ = some (.int .i64 T[j].1.1) ∧ w.cell? ⟨b, o + j * 3 + 1, none⟩ = some (.int .u64 (T[j].1.2 : Int)) ∧ w.cell? ⟨b, o + j * 3 + 2, none⟩ = some (.string T[j].2))
theorem Se.nil {w : World} (A : Option Addr) (c : Nat) : Se w (.slice A 0 c) [] := ⟨A, c, rfl, Nat.zero_le _, fun h => absurd h (by simp)⟩
theorem Se.keep {w w' : World} {v : Value} {T : List De} (h : Se w v T) (hk : ∀ p : Addr, ∀ u, w.cell? p = some u → w'.cell? p = some u) : Se w' v T := by
  obtain ⟨A, c, rfl, hc, ha⟩ := h
  refine ⟨A, c, rfl, hc, fun hn => ?_⟩
  obtain ⟨b, o, rfl, hx⟩ := ha hn
  exact ⟨b, o, rfl, fun j hj => ⟨hk _ _ (hx j hj).1, hk _ _ (hx j hj).2.1, hk _ _ (hx j hj).2.2⟩⟩
theorem Se.below {w w' : World} {v : Value} {T : List De} (h : Se w v T) (hb : Below w.heap.size w w') : Se w' v T :=
  h.keep fun p u hu => (hb.cell (World.block_lt_of_cell? w p hu)).trans hu
theorem Se.shape {w : World} {v : Value} {T : List De} (h : Se w v T) : ∃ A c, v = .slice A T.length c := by
  obtain ⟨A, c, rfl, _⟩ := h
  exact ⟨A, c, rfl⟩
theorem Se.at_ {w : World} {A : Option Addr} {n c : Nat} {T : List De} (h : Se w (.slice A n c) T) (j : Nat) (hj : j < T.length) : ∃ b o, A = some ⟨b, o, none⟩ ∧ w.cell? ⟨b, o + j * 3, none⟩ = some (.int .i64 T[j].1.1) ∧ w.cell? ⟨b, o + j * 3 + 1, none⟩ = some (.int .u64 (T[j].1.2 : Int)) ∧ w.cell? ⟨b, o + j * 3 + 2, none⟩ = some (.string T[j].2) := by
  obtain ⟨A', c', e, hc, ha⟩ := h
  injection e with e1 e2 e3
  subst e1
  obtain ⟨b, o, rfl, hx⟩ := ha (by omega)
  exact ⟨b, o, rfl, hx j hj⟩

/-- The dot ahead of place i. -/
def lastD (T : List De) : Nat → Dt
  | 0 => (0, 0)
  | i + 1 => ((T.map (·.1)).getD i (0, 0))
theorem lastD_next (T : List De) (i : Nat) (h : i < T.length) : lastD T (i + 1) = T[i].1 := by
  simp [lastD, List.getD_eq_getElem?_getD, List.getElem?_eq_getElem h]
def OneOk (T : List De) (i : Nat) (x : De) : Prop := May x.1 ∧ nameB x.2 = true ∧ Lt (lastD T i) x.1
/-- May an event go to these? -/
def ToOk (T : List De) : Prop := T.length ≤ 1024 ∧ ∀ j (h : j < T.length), OneOk T j T[j]
noncomputable def toB (T : List De) : Bool := @decide (ToOk T) (Classical.propDecidable _)
theorem toB_yes {T : List De} (h : ToOk T) : toB T = true := @decide_eq_true _ (Classical.propDecidable _) h
theorem toB_no {T : List De} (h : ¬ ToOk T) : toB T = false := @decide_eq_false _ (Classical.propDecidable _) h
theorem toB_iff (T : List De) : toB T = true ↔ ToOk T := @decide_eq_true_iff _ (Classical.propDecidable _)

theorem Grw.drawn {a b : World} (h : Grw a b) : a.drawn ≤ b.drawn := by
  obtain ⟨q, os, rfl⟩ := h
  exact Nat.le_add_right _ _

set_option maxHeartbeats 4000000 in
theorem emayTo_any (v : Value) (T : List De) (w : World) (hs : Se w v T) :
    Calls Try.prog 31 #[v] w fun e w' => e = .returned (.bool (toB T)) ∧ Grw w w' := by
  obtain ⟨A, c, rfl⟩ := hs.shape
  have Hy := Lib.hid (@toB_yes T)
  have Hn := Lib.hid (@toB_no T)
  generalize toB T = tb at Hy Hn ⊢
  have HS := Lib.hid hs
  clear hs
  go_enter Try.func31, Try.ntmps31
  by_cases hbig : T.length ≤ 1024
  · go_wp2
    go_step3
    go_wp2
    go_step3
    go_wp2
    have hB0 := Blk.new w 24 #[.int .i64 0, .int .u64 0]
    have hb0 : Below w.heap.size w (w.alloc (.cells #[.int .i64 0, .int .u64 0] 24)) := (Below.refl _ _).alloc (Nat.le_refl _) _
    have hd0 : w.drawn ≤ (w.alloc (.cells #[.int .i64 0, .int .u64 0] 24)).drawn := Nat.le_refl _
    generalize w.alloc (.cells #[.int .i64 0, .int .u64 0] 24) = W0 at hB0 hb0 hd0 ⊢
    go_loopw [3] (fun x wr => ∃ i : Nat, x = .int .i64 (i : Int) ∧ i ≤ T.length ∧ (∀ j (h : j < T.length), j < i → OneOk T j T[j]) ∧ Blk wr w.heap.size 24 #[.int .i64 (lastD T i).1, .int .u64 ((lastD T i).2 : Int)] ∧ Below w.heap.size w wr ∧ w.drawn ≤ wr.drawn) (fun x _ => T.length - (intOf x).toNat)
    case atStart => exact ⟨0, rfl, Nat.zero_le _, fun j _ h => absurd h (by omega), hB0, hb0, hd0⟩
    case round =>
      clear hB0 hb0 hd0
      obtain ⟨i, rfl, hi, hok, hB, hb, hd⟩ := hrel
      have HO := Lib.hid hok
      have HD := Lib.hid hd
      clear hok hd
      by_cases hlt : i < T.length
      · obtain ⟨b, o, rfl, k0, k1, k2⟩ := (HS.out.below hb).at_ i hlt
        have HL := Lib.hid (lastD_next T i hlt)
        obtain ⟨x, hx⟩ : ∃ x, T[i] = x := ⟨_, rfl⟩
        rw [hx] at k0 k1 k2 HL
        have hm := fun W => emayDot_any x.1 W
        have hn := fun W => emayName_any x.2 W
        have hls := fun W => eless_any (lastD T i) x.1 W
        have HX := Lib.hid hx
        have HLT := Lib.hid hlt
        have KN := Lib.hid (show ((i : Int) == (T.length : Int)) = false by rw [beq_eq_false_iff_ne]; omega)
        obtain ⟨l0, hl0⟩ : ∃ l, lastD T i = l := ⟨_, rfl⟩
        rw [hl0] at hls hB
        have HL0 := Lib.hid hl0
        have HI := Lib.hid hi
        have hbz := hb.size
        have c0 : wr.cell? ⟨w.heap.size, 0, none⟩ = some (.int .i64 l0.1) := by rw [hB.cell]; rfl
        have c1 : wr.cell? ⟨w.heap.size, 1, none⟩ = some (.int .u64 (l0.2 : Int)) := by rw [hB.cell]; rfl
        clear hl0 hx hi
        by_cases pm : May x.1
        · rw [decide_eq_true pm] at hm
          have PM := Lib.hid pm
          clear pm
          cases pn : nameB x.2
          · rw [pn] at hn
            have PN := Lib.hid pn
            clear pn
            go_wp2_with (first | (go_at_call 51; refine (hm _).mono ?_; rintro e w1 ⟨rfl, hg1⟩; have hB1 := (hB.alloc _).below hg1.below (by simp; omega); have hD1 := (Blk.new wr 55 #[.int .i64 x.1.1, .int .u64 (x.1.2 : Int), .string x.2]).below hg1.below (by simp); have g0 : w1.cell? ⟨wr.heap.size, 0, none⟩ = some (.int .i64 x.1.1) := (by rw [hD1.cell]; rfl); have g1 : w1.cell? ⟨wr.heap.size, 1, none⟩ = some (.int .u64 (x.1.2 : Int)) := (by rw [hD1.cell]; rfl); have g2 : w1.cell? ⟨wr.heap.size, 2, none⟩ = some (.string x.2) := (by rw [hD1.cell]; rfl); have p0 : w1.cell? ⟨w.heap.size, 0, none⟩ = some (.int .i64 l0.1) := (by rw [hB1.cell]; rfl); have p1 : w1.cell? ⟨w.heap.size, 1, none⟩ = some (.int .u64 (l0.2 : Int)) := (by rw [hB1.cell]; rfl); have HG1 := Lib.hid hg1; have hs1 := hg1.below.size; simp at hs1) | (go_at_call 30; refine (hn _).mono ?_; rintro e w2 ⟨rfl, rfl⟩) | (go_at_call 19; refine (hls _).mono ?_; rintro e w3 ⟨rfl, hg2⟩; have hB2 := hB1.below hg2.below hB1.lt; have hD2 := hD1.below hg2.below hD1.lt; have r0 : w3.cell? ⟨wr.heap.size, 0, none⟩ = some (.int .i64 x.1.1) := (by rw [hD2.cell]; rfl); have r1 : w3.cell? ⟨wr.heap.size, 1, none⟩ = some (.int .u64 (x.1.2 : Int)) := (by rw [hD2.cell]; rfl); have r2 : w3.cell? ⟨w.heap.size, 0, none⟩ = some (.int .i64 l0.1) := (by rw [hB2.cell]; rfl); have r3 : w3.cell? ⟨w.heap.size, 1, none⟩ = some (.int .u64 (l0.2 : Int)) := (by rw [hB2.cell]; rfl); have z0 := hB2.frozen 0; have z1 := hB2.frozen 1; have HG2 := Lib.hid hg2))
            try rw [Exit.noGoto_ret]
            go_ret
            refine ⟨ret_bool (KN.out.trans (Hn.out (fun h => ?_)).symm), ?_⟩
            · have h1 := h.2 i HLT.out
              rw [HX.out] at h1
              exact absurd h1.2.1 (by rw [PN.out]; decide)
            · exact grw_of (hb.trans ((((Grw.refl wr).alloc _).trans HG1.out).below.mono hbz)) (Nat.le_trans HD.out (((Grw.refl wr).alloc _).trans HG1.out).drawn)
          · rw [pn] at hn
            have PN := Lib.hid pn
            clear pn
            by_cases pl : Lt l0 x.1
            · rw [decide_eq_true pl] at hls
              have PL := Lib.hid pl
              clear pl
              go_wp2_with (first | (go_at_call 51; refine (hm _).mono ?_; rintro e w1 ⟨rfl, hg1⟩; have hB1 := (hB.alloc _).below hg1.below (by simp; omega); have hD1 := (Blk.new wr 55 #[.int .i64 x.1.1, .int .u64 (x.1.2 : Int), .string x.2]).below hg1.below (by simp); have g0 : w1.cell? ⟨wr.heap.size, 0, none⟩ = some (.int .i64 x.1.1) := (by rw [hD1.cell]; rfl); have g1 : w1.cell? ⟨wr.heap.size, 1, none⟩ = some (.int .u64 (x.1.2 : Int)) := (by rw [hD1.cell]; rfl); have g2 : w1.cell? ⟨wr.heap.size, 2, none⟩ = some (.string x.2) := (by rw [hD1.cell]; rfl); have p0 : w1.cell? ⟨w.heap.size, 0, none⟩ = some (.int .i64 l0.1) := (by rw [hB1.cell]; rfl); have p1 : w1.cell? ⟨w.heap.size, 1, none⟩ = some (.int .u64 (l0.2 : Int)) := (by rw [hB1.cell]; rfl); have HG1 := Lib.hid hg1; have hs1 := hg1.below.size; simp at hs1) | (go_at_call 30; refine (hn _).mono ?_; rintro e w2 ⟨rfl, rfl⟩) | (go_at_call 19; refine (hls _).mono ?_; rintro e w3 ⟨rfl, hg2⟩; have hB2 := hB1.below hg2.below hB1.lt; have hD2 := hD1.below hg2.below hD1.lt; have r0 : w3.cell? ⟨wr.heap.size, 0, none⟩ = some (.int .i64 x.1.1) := (by rw [hD2.cell]; rfl); have r1 : w3.cell? ⟨wr.heap.size, 1, none⟩ = some (.int .u64 (x.1.2 : Int)) := (by rw [hD2.cell]; rfl); have r2 : w3.cell? ⟨w.heap.size, 0, none⟩ = some (.int .i64 l0.1) := (by rw [hB2.cell]; rfl); have r3 : w3.cell? ⟨w.heap.size, 1, none⟩ = some (.int .u64 (l0.2 : Int)) := (by rw [hB2.cell]; rfl); have z0 := hB2.frozen 0; have z1 := hB2.frozen 1; have HG2 := Lib.hid hg2))
              refine ⟨⟨i + 1, by go_num, HLT.out, fun j hj hji => ?_, ?_, ?_, ?_⟩, by simp [intOf]; have := HLT.out; omega⟩
              · rcases Nat.lt_or_ge j i with h | h
                · exact HO.out j hj h
                · obtain rfl : j = i := by omega
                  rw [HX.out]
                  exact ⟨PM.out, PN.out, HL0.out ▸ PL.out⟩
              · rw [HL.out]
                exact (hB2.set_ 0 _).set_ 1 _
              · exact Below.only (Below.only (hb.trans (((((Grw.refl wr).alloc _).trans HG1.out).trans HG2.out).below.mono hbz)) (grown_setCell _ _ _ _) (Nat.le_refl _) (by have := hB2.lt; omega)) (grown_setCell _ _ _ _) (Nat.le_refl _) (by have := hB2.lt; simp; omega)
              · exact Nat.le_trans HD.out ((((Grw.refl wr).alloc _).trans HG1.out).trans HG2.out).drawn
            · rw [decide_eq_false pl] at hls
              have PL := Lib.hid pl
              clear pl
              go_wp2_with (first | (go_at_call 51; refine (hm _).mono ?_; rintro e w1 ⟨rfl, hg1⟩; have hB1 := (hB.alloc _).below hg1.below (by simp; omega); have hD1 := (Blk.new wr 55 #[.int .i64 x.1.1, .int .u64 (x.1.2 : Int), .string x.2]).below hg1.below (by simp); have g0 : w1.cell? ⟨wr.heap.size, 0, none⟩ = some (.int .i64 x.1.1) := (by rw [hD1.cell]; rfl); have g1 : w1.cell? ⟨wr.heap.size, 1, none⟩ = some (.int .u64 (x.1.2 : Int)) := (by rw [hD1.cell]; rfl); have g2 : w1.cell? ⟨wr.heap.size, 2, none⟩ = some (.string x.2) := (by rw [hD1.cell]; rfl); have p0 : w1.cell? ⟨w.heap.size, 0, none⟩ = some (.int .i64 l0.1) := (by rw [hB1.cell]; rfl); have p1 : w1.cell? ⟨w.heap.size, 1, none⟩ = some (.int .u64 (l0.2 : Int)) := (by rw [hB1.cell]; rfl); have HG1 := Lib.hid hg1; have hs1 := hg1.below.size; simp at hs1) | (go_at_call 30; refine (hn _).mono ?_; rintro e w2 ⟨rfl, rfl⟩) | (go_at_call 19; refine (hls _).mono ?_; rintro e w3 ⟨rfl, hg2⟩; have hB2 := hB1.below hg2.below hB1.lt; have hD2 := hD1.below hg2.below hD1.lt; have r0 : w3.cell? ⟨wr.heap.size, 0, none⟩ = some (.int .i64 x.1.1) := (by rw [hD2.cell]; rfl); have r1 : w3.cell? ⟨wr.heap.size, 1, none⟩ = some (.int .u64 (x.1.2 : Int)) := (by rw [hD2.cell]; rfl); have r2 : w3.cell? ⟨w.heap.size, 0, none⟩ = some (.int .i64 l0.1) := (by rw [hB2.cell]; rfl); have r3 : w3.cell? ⟨w.heap.size, 1, none⟩ = some (.int .u64 (l0.2 : Int)) := (by rw [hB2.cell]; rfl); have z0 := hB2.frozen 0; have z1 := hB2.frozen 1; have HG2 := Lib.hid hg2))
              try rw [Exit.noGoto_ret]
              go_ret
              refine ⟨ret_bool (KN.out.trans (Hn.out (fun h => ?_)).symm), ?_⟩
              · have h1 := h.2 i HLT.out
                rw [HX.out] at h1
                exact PL.out (HL0.out ▸ h1.2.2)
              · exact grw_of (hb.trans (((((Grw.refl wr).alloc _).trans HG1.out).trans HG2.out).below.mono hbz)) (Nat.le_trans HD.out ((((Grw.refl wr).alloc _).trans HG1.out).trans HG2.out).drawn)
        · rw [decide_eq_false pm] at hm
          have PM := Lib.hid pm
          clear pm
          go_wp2_with (first | (go_at_call 51; refine (hm _).mono ?_; rintro e w1 ⟨rfl, hg1⟩; have hB1 := (hB.alloc _).below hg1.below (by simp; omega); have hD1 := (Blk.new wr 55 #[.int .i64 x.1.1, .int .u64 (x.1.2 : Int), .string x.2]).below hg1.below (by simp); have g0 : w1.cell? ⟨wr.heap.size, 0, none⟩ = some (.int .i64 x.1.1) := (by rw [hD1.cell]; rfl); have g1 : w1.cell? ⟨wr.heap.size, 1, none⟩ = some (.int .u64 (x.1.2 : Int)) := (by rw [hD1.cell]; rfl); have g2 : w1.cell? ⟨wr.heap.size, 2, none⟩ = some (.string x.2) := (by rw [hD1.cell]; rfl); have p0 : w1.cell? ⟨w.heap.size, 0, none⟩ = some (.int .i64 l0.1) := (by rw [hB1.cell]; rfl); have p1 : w1.cell? ⟨w.heap.size, 1, none⟩ = some (.int .u64 (l0.2 : Int)) := (by rw [hB1.cell]; rfl); have HG1 := Lib.hid hg1; have hs1 := hg1.below.size; simp at hs1) | (go_at_call 30; refine (hn _).mono ?_; rintro e w2 ⟨rfl, rfl⟩) | (go_at_call 19; refine (hls _).mono ?_; rintro e w3 ⟨rfl, hg2⟩; have hB2 := hB1.below hg2.below hB1.lt; have hD2 := hD1.below hg2.below hD1.lt; have r0 : w3.cell? ⟨wr.heap.size, 0, none⟩ = some (.int .i64 x.1.1) := (by rw [hD2.cell]; rfl); have r1 : w3.cell? ⟨wr.heap.size, 1, none⟩ = some (.int .u64 (x.1.2 : Int)) := (by rw [hD2.cell]; rfl); have r2 : w3.cell? ⟨w.heap.size, 0, none⟩ = some (.int .i64 l0.1) := (by rw [hB2.cell]; rfl); have r3 : w3.cell? ⟨w.heap.size, 1, none⟩ = some (.int .u64 (l0.2 : Int)) := (by rw [hB2.cell]; rfl); have z0 := hB2.frozen 0; have z1 := hB2.frozen 1; have HG2 := Lib.hid hg2))
          try rw [Exit.noGoto_ret]
          go_ret
          refine ⟨ret_bool (KN.out.trans (Hn.out (fun h => ?_)).symm), ?_⟩
          · have h1 := h.2 i HLT.out
            rw [HX.out] at h1
            exact PM.out h1.1
          · exact grw_of (hb.trans ((((Grw.refl wr).alloc _).trans HG1.out).below.mono hbz)) (Nat.le_trans HD.out (((Grw.refl wr).alloc _).trans HG1.out).drawn)
      · obtain rfl : i = T.length := by omega
        go_wp2
        try rw [Exit.noGoto_ret]
        go_ret
        exact ⟨ret_bool (Hy.out ⟨hbig, fun j hj => HO.out j hj hj⟩).symm, grw_of hb HD.out⟩
  · have hb : (1024 : Int) < (T.length : Int) := by omega
    go_wp2
    go_step3
    go_wp2
    try rw [Exit.noGoto_ret]
    go_ret
    exact ⟨ret_bool (Hn.out (fun h => hbig h.1)).symm, Grw.refl w⟩
end Go.Proofs.Ytigepbklpiilpaa

/-
  A context of dots, by both: the laws' 'of': both are the call's own.
-/
import Derived.Test.YtoglhpcboonpeaaCtxLawPlays
namespace Go.Proofs.Ytoglhpcboonpeaa
open Go.RowKit
open CtxM
set_option linter.unusedVariables false
set_option linter.unusedSimpArgs false
set_option maxRecDepth 20000

/-- A context and a plain set of the same dots, apart from one another, made by the call. -/
structure Twin (w : World) (B g h : Nat) (S : List Nat × List Dt) : Prop where
  is : ∃ v u, Cx w g v S.1 S.2 ∧ Sx w h u S.1 S.2 ∧ (∀ j, Foot g v j → ¬ Foot h u j) ∧ (∀ j, Foot g v j → B ≤ j) ∧ ∀ j, Foot h u j → B ≤ j
  lo : B ≤ h
theorem Twin.below {w w' : World} {B g h : Nat} {S : List Nat × List Dt} (t : Twin w B g h S) (hb : Below w.heap.size w w') : Twin w' B g h S := by
  obtain ⟨v, u, hc, hs, hd, hl⟩ := t.is
  exact ⟨⟨v, u, hc.below hb, hs.below hb, hd, hl⟩, t.lo⟩
/-- A dot is added to the context. -/
theorem twin_add {w0 w : World} {B g h : Nat} {S : List Nat × List Dt} {d : Dt} (t : Twin w B g h S) (hl : S.2.length < 4096) (hb : Below B w0 w) (hB : B ≤ w.heap.size) :
    Calls Try.prog 11 #[.pointer (some ⟨g, 0, none⟩), .agg #[.int .i64 d.1, .int .u64 (d.2 : Int)]] w fun e w' =>
      e = .returned (.tuple #[.bool (decide (May d ∧ ¬ In S.1 S.2 d)), .int .i64 (if May d then 0 else 2)]) ∧ Below B w0 w' ∧ B ≤ w'.heap.size ∧
      ∃ v u, Cx w' g v (addS S d).1 (addS S d).2 ∧ Sx w' h u S.1 S.2 ∧ (∀ j, Foot g v j → ¬ Foot h u j) ∧ (∀ j, Foot g v j → B ≤ j) ∧ ∀ j, Foot h u j → B ≤ j := by
  obtain ⟨v, u, hc, hs, hd, hlo, hlu⟩ := t.is
  refine (add_any g v S.1 S.2 d w hc hl).mono ?_
  rintro e w' ⟨rfl, v', h1, h2, h3⟩
  have hlt := hs.lt
  have hn : ∀ j, Foot g v' j → Foot g v j ∨ w.heap.size ≤ j := by
    rintro j (hj | hj)
    · exact .inl (.inl hj)
    · exact (h3 j hj).imp .inr id
  refine ⟨rfl, Keep.below hb h2 hB hlo, Nat.le_trans hB h2.size, v', u, h1, hs.kept h2 (fun j hj hk => hd j hk hj), fun j hj hk => (hn j hj).elim (fun h => hd j h hk) (fun h => by have := hlt j hk; omega), fun j hj => (hn j hj).elim (hlo j) (fun h => by omega), hlu⟩
/-- .. and to the set. -/
theorem twin_ref {w0 w : World} {B g h : Nat} {S : List Nat × List Dt} {d : Dt} (hM : May d) (t : ∃ v u, Cx w g v (addS S d).1 (addS S d).2 ∧ Sx w h u S.1 S.2 ∧ (∀ j, Foot g v j → ¬ Foot h u j) ∧ (∀ j, Foot g v j → B ≤ j) ∧ ∀ j, Foot h u j → B ≤ j) (hlo : B ≤ h) (hl : S.2.length ≤ 10000) (hb : Below B w0 w) (hB : B ≤ w.heap.size) :
    Calls Try.prog 14 #[.pointer (some ⟨h, 0, none⟩), .agg #[.int .i64 d.1, .int .u64 (d.2 : Int)]] w fun e w' =>
      e = .returned (.bool (decide (¬ In S.1 S.2 d))) ∧ Below B w0 w' ∧ B ≤ w'.heap.size ∧ Twin w' B g h (addS S d) := by
  obtain ⟨v, u, hc, hs, hd, hfl, hfu⟩ := t
  refine (refAdd_any h u S.1 S.2 d w hs hM hl).mono ?_
  rintro e w' ⟨rfl, u', h1, h2, h3⟩
  have hlt := hc.lt
  have hn : ∀ j, Foot h u' j → Foot h u j ∨ w.heap.size ≤ j := by
    rintro j (hj | hj)
    · exact .inl (.inl hj)
    · exact (h3 j hj).imp .inr id
  have e1 : addS S d = addF S d := by unfold addS; rw [if_pos hM]
  have e2 : addF (S.1, S.2) d = addF S d := rfl
  rw [e2, ← e1] at h1
  refine ⟨rfl, Keep.below hb h2 hB (fun j hj => by omega), Nat.le_trans hB h2.size, ⟨⟨v, u', hc.kept h2 (fun j hj e => hd j hj (.inl e)), h1, fun j hj hk => (hn j hk).elim (hd j hj) (fun h => by have := hlt j hj; omega), hfl, fun j hj => (hn j hj).elim (hfu j) (fun h => by omega)⟩, hlo⟩⟩
/-- Both made. -/
theorem twin_new {w w1 : World} (B : Nat) (hc : Cx w1 w.heap.size (.slice none 0 0) zeros []) (hB : B ≤ w.heap.size) (hs : w.heap.size < w1.heap.size) :
    Twin (w1.alloc (.cells (sxc zeros (.slice none 0 0)) 30)) B w.heap.size w1.heap.size (zeros, []) := by
  refine ⟨⟨.slice none 0 0, .slice none 0 0, hc.below ((Below.refl _ _).alloc (Nat.le_refl _) _), ⟨Blk.new _ _ _, Sd.nil _ _, (fun i hi => by cases hi), (fun e => by cases e), fit_zero⟩, ?_, ?_, ?_⟩, by omega⟩
  · rintro j (rfl | hj) (hk | hk)
    · omega
    · cases hk
    · cases hj
    · cases hj
  · rintro j (rfl | hj)
    · exact hB
    · cases hj
  · rintro j (rfl | hj)
    · omega
    · cases hj

set_option maxHeartbeats 4000000 in
theorem of_twin (vl : Value) (L : List Dt) (w : World) (hL : Sd w vl L) (hl : L.length ≤ 4000) :
    Calls Try.prog 22 #[vl] w fun e w' => ∃ h, e = .returned (.tuple #[.pointer (some ⟨w.heap.size, 0, none⟩), .pointer (some ⟨h, 0, none⟩)]) ∧ Twin w' w.heap.size w.heap.size h (addAll (zeros, []) L) ∧ Below w.heap.size w w' := by
  have hfo : Try.prog.follows .mixedOrders = true := by kernel_rfl
  have HL := Lib.hid hL
  obtain ⟨A, c, rfl, _, _⟩ := hL
  go_enter Try.func22, Try.ntmps22
  go_wp2_with fail
  refine (new_any w).mono ?_
  rintro e w1 ⟨rfl, hc1, hb1⟩
  have hlt1 := hc1.blk.lt
  have hT0 := twin_new w.heap.size hc1 (Nat.le_refl _) hlt1
  have hb2 : Below w.heap.size w (w1.alloc (.cells (sxc zeros (.slice none 0 0)) 30)) := hb1.alloc hb1.size _
  have hz2 : w.heap.size ≤ (w1.alloc (.cells (sxc zeros (.slice none 0 0)) 30)).heap.size := hb2.size
  clear hc1 hb1
  go_wp2
  go_loopw [6] (fun z wr => ∃ i : Nat, z = .int .i64 (i : Int) ∧ i ≤ L.length ∧ Twin wr w.heap.size w.heap.size w1.heap.size (addAll (zeros, []) (L.take i)) ∧ Below w.heap.size w wr ∧ w.heap.size ≤ wr.heap.size) (fun z _ => L.length - (intOf z).toNat)
  case atStart => exact ⟨0, rfl, Nat.zero_le _, hT0, hb2, hz2⟩
  case round =>
    clear hT0 hb2 hz2
    obtain ⟨i, rfl, hi, hT, hb, hz⟩ := hrel
    by_cases hlt : i < L.length
    · obtain ⟨d, hd⟩ : ∃ d, L[i] = d := ⟨_, rfl⟩
      obtain ⟨b, o, rfl, k0, k1⟩ := (HL.out.below hb).at_ i hlt d hd
      have hil : (i : Int) < (L.length : Int) := by omega
      have hSl : (addAll (zeros, []) (L.take i)).2.length ≤ 4000 := by
        have h1 := addAll_short (L.take i) (zeros, [])
        have h2 : (L.take i).length ≤ i := by rw [List.length_take]; omega
        simp only [List.length_nil] at h1
        omega
      have HST := Lib.hid (show addAll (zeros, []) (L.take (i + 1)) = addS (addAll (zeros, []) (L.take i)) d by
        rw [List.take_succ_eq_append_getElem hlt, hd, addAll_append]; rfl)
      generalize addAll (zeros, []) (L.take i) = S at hT hSl HST
      have HD := Lib.hid hd
      have HLT := Lib.hid hlt
      clear hd
      go_wp2_with fail
      refine (refMay_any d wr).mono ?_
      rintro e w2 ⟨rfl, hg2⟩
      have hT2 := hT.below hg2.below
      have hb2 := hb.trans (hg2.below.mono hz)
      have hz2 := Nat.le_trans hz hg2.below.size
      clear k0 k1 hT hb hz hg2
      by_cases hM : May d
      · rw [decide_eq_true hM]
        have HM := Lib.hid hM
        clear hM
        obtain ⟨bb2, oo2, ee2, k0, k1⟩ := (HL.out.below hb2).at_ i HLT.out d HD.out
        injection ee2 with ee2
        injection ee2 with f1 f2
        subst f1; subst f2
        go_wp2_with fail
        refine (twin_add hT2 (by omega) hb2 hz2).mono ?_
        rintro e w3 ⟨rfl, hb3, hz3, h3⟩
        clear k0 k1 hT2 hb2 hz2
        obtain ⟨bb3, oo3, ee3, k0, k1⟩ := (HL.out.below hb3).at_ i HLT.out d HD.out
        injection ee3 with ee3
        injection ee3 with f1 f2
        subst f1; subst f2
        go_wp2_with fail
        refine (twin_ref HM.out h3 (by omega) (by omega) hb3 hz3).mono ?_
        rintro e w4 ⟨rfl, hb4, hz4, hT4⟩
        clear k0 k1 h3 hb3 hz3
        go_wp2
        exact ⟨⟨i + 1, by go_num, HLT.out, by rw [HST.out]; exact hT4, hb4, hz4⟩, by have := HLT.out; simp [intOf]; omega⟩
      · rw [decide_eq_false hM]
        have hS : addS S d = S := by unfold addS; rw [if_neg hM]
        have HS := Lib.hid hS
        clear hM hS
        go_wp2
        exact ⟨⟨i + 1, by go_num, HLT.out, by rw [HST.out, HS.out]; exact hT2, hb2, hz2⟩, by have := HLT.out; simp [intOf]; omega⟩
    · obtain rfl : i = L.length := by omega
      rw [List.take_length] at hT
      clear hlt hi
      go_wp2
      go_ret2
      exact ⟨_, rfl, hT, hb⟩
end Go.Proofs.Ytoglhpcboonpeaa

/-
  The walk of CtxFull.
-/
import Derived.Test.YtoglhpcboonpeaaCtxOfW
import Derived.Test.YtoglhpcboonpeaaCtxRefAdd
import Derived.Test.YtoglhpcboonpeaaCtxJoin
import Derived.Test.YtoglhpcboonpeaaCtxKnown
import Derived.Test.YtoglhpcboonpeaaCtxJoinM
namespace Go.Proofs.Ytoglhpcboonpeaa
open Go.RowKit
open CtxM
set_option linter.unusedVariables false
set_option linter.unusedSimpArgs false
set_option maxRecDepth 20000

/-- Exceptions with a gap ahead of each. -/
def gaps (r : Int) (f n : Nat) : List Dt := (List.range n).map fun i => (r, f + 2 + 2 * i)
theorem gaps_len (r : Int) (f n : Nat) : (gaps r f n).length = n := by simp [gaps]
theorem gaps_snoc (r : Int) (f n : Nat) : gaps r f (n + 1) = gaps r f n ++ [(r, f + 2 + 2 * n)] := by simp [gaps, List.range_succ]
theorem gaps_get (r : Int) (f n i : Nat) (h : i < (gaps r f n).length) : (gaps r f n)[i] = (r, f + 2 + 2 * i) := by simp [gaps]
theorem gaps_mem (r : Int) (f n : Nat) (d : Dt) : d ∈ gaps r f n ↔ ∃ i, i < n ∧ d = (r, f + 2 + 2 * i) := by
  unfold gaps
  rw [List.mem_map]
  constructor
  · rintro ⟨i, h, rfl⟩; exact ⟨i, by simpa using h, rfl⟩
  · rintro ⟨i, h, rfl⟩; exact ⟨i, by simpa using h, rfl⟩
theorem gaps_fit {r : Int} {f : Nat} (n : Nat) (h1 : 1 ≤ r) (h2 : r ≤ 16) (hf : f ≤ 1152921504606846976) (hn : n ≤ 5000) : Fit zeros (gaps r f n) := by
  refine ⟨by decide, fun n hn => by simp [zeros] at hn; subst hn; exact Nat.zero_le _, ?_, ?_, ?_⟩
  · refine List.pairwise_iff_getElem.2 fun i j hi hj hij => ?_
    rw [gaps_get, gaps_get]
    exact .inr ⟨rfl, by simp; omega⟩
  · intro d hd
    obtain ⟨i, hi, rfl⟩ := (gaps_mem ..).1 hd
    refine ⟨h1, h2, ?_, ?_⟩
    · show 1 ≤ f + 2 + 2 * i; omega
    · show f + 2 + 2 * i ≤ top; unfold top; omega
  · intro d hd
    obtain ⟨i, hi, rfl⟩ := (gaps_mem ..).1 hd
    rw [at_zeros]
    show 0 + 1 < f + 2 + 2 * i; omega
theorem gaps_more_fit {r : Int} {f : Nat} (h1 : 1 ≤ r) (h2 : r ≤ 16) (hf : f ≤ 1152921504606846976) : Fit zeros (gaps r f 4096 ++ [(r, f + 9000)]) := by
  have h := gaps_fit 4096 h1 h2 hf (by omega)
  refine ⟨h.len, h.le, ?_, ?_, ?_⟩
  · refine List.pairwise_append.2 ⟨h.rise, List.pairwise_singleton _ _, ?_⟩
    intro a ha b hb
    obtain ⟨i, hi, rfl⟩ := (gaps_mem ..).1 ha
    rw [List.mem_singleton] at hb
    subst hb
    exact .inr ⟨rfl, by simp; omega⟩
  · intro d hd
    rcases List.mem_append.1 hd with hd | hd
    · exact h.may d hd
    · rw [List.mem_singleton] at hd
      subst hd
      refine ⟨h1, h2, ?_, ?_⟩
      · show 1 ≤ f + 9000; omega
      · show f + 9000 ≤ top; unfold top; omega
  · intro d hd
    rcases List.mem_append.1 hd with hd | hd
    · exact h.beyond d hd
    · rw [List.mem_singleton] at hd
      subst hd
      rw [at_zeros]
      show 0 + 1 < f + 9000; omega
theorem more_not {r : Int} {f : Nat} : ¬ In zeros (gaps r f 4096) (r, f + 9000) := by
  rintro ⟨_, h | h⟩
  · obtain ⟨i, hi, e⟩ := (gaps_mem ..).1 h
    have := congrArg Prod.snd e
    simp at this; omega
  · rw [at_zeros] at h; simp at h
theorem first_in {r : Int} {f : Nat} (h1 : 1 ≤ r) (h2 : r ≤ 16) (hf : f ≤ 1152921504606846976) : In zeros (gaps r f 4096) (r, f + 2) :=
  ⟨⟨h1, h2, by show 1 ≤ f + 2; omega, by show f + 2 ≤ top; unfold top; omega⟩, .inl ((gaps_mem ..).2 ⟨0, by omega, rfl⟩)⟩
theorem zeros_vec : (#[.int .u64 0, .int .u64 0, .int .u64 0, .int .u64 0, .int .u64 0, .int .u64 0, .int .u64 0, .int .u64 0, .int .u64 0, .int .u64 0, .int .u64 0, .int .u64 0, .int .u64 0, .int .u64 0, .int .u64 0, .int .u64 0] : Array Value) = uqs zeros := rfl

set_option maxHeartbeats 8000000 in
set_option maxRecDepth 100000 in
theorem full_in (r : Int) (f : Nat) (w : World) (h1 : 1 ≤ r) (h2 : r ≤ 16) (hf : f ≤ 1152921504606846976) :
    Calls Try.prog 6 #[.int .i64 r, .int .u64 (f : Int)] w fun e w' => e = .returned (.bool true) ∧ Below w.heap.size w w' := by
  have hfo : Try.prog.follows .mixedOrders = true := by kernel_rfl
  obtain ⟨i0, hi0, hy0, hy1, hy2⟩ := info_parts info_dot
  have t1 : decide (r < 1) = false := decide_eq_false (by omega)
  have t2 : decide (16 < r) = false := decide_eq_false (by omega)
  have t3 : decide ((1152921504606846976 : Int) < (f : Int)) = false := decide_eq_false (by omega)
  have hfit := gaps_fit 4096 h1 h2 hf (by omega)
  have hmore := gaps_more_fit h1 h2 hf
  have hno := more_not (r := r) (f := f)
  have hfirst := first_in h1 h2 hf
  have hMay : May (r, f + 9000) := hmore.may _ (by simp)
  have hFir : May (r, f + 2) := hfirst.1
  have HFIT := Lib.hid hfit
  have HMORE := Lib.hid hmore
  have HNO := Lib.hid hno
  have HFIRST := Lib.hid hfirst
  have HMAY := Lib.hid hMay
  have HFIR := Lib.hid hFir
  have HF := Lib.hid hf
  have HR := Lib.hid (And.intro h1 h2)
  have hb0 := Below.refl w.heap.size w
  clear hfit hmore hno hfirst hMay hFir h1 h2 hf
  go_enter Try.func6, Try.ntmps6
  go_wp2
  clear t1 t2 t3
  go_loopw [5, 6] (fun v z wr => ∃ i : Nat, z = .int .i64 (i : Int) ∧ i ≤ 4096 ∧ OwnD wr w.heap.size v (gaps r f i) ∧ Below w.heap.size w wr) (fun _ z _ => 4096 - (intOf z).toNat)
  case atStart => exact ⟨0, rfl, Nat.zero_le _, OwnD.nil, hb0⟩
  case round =>
    clear hb0
    obtain ⟨i, rfl, hi, ho, hb⟩ := hrel
    have hz := hb.size
    by_cases hlt : i < 4096
    · obtain ⟨m, hm⟩ : ∃ m, m = f + 2 + 2 * i := ⟨_, rfl⟩
      have hff := HF.out
      have hw1 : IntKind.u64.wrap ((f : Int) + 2) = (f : Int) + 2 := by rw [IntKind.wrap_u64]; omega
      have hw2 : IntKind.u64.wrap (i : Int) = (i : Int) := by rw [IntKind.wrap_u64]; omega
      have hw3 : IntKind.u64.wrap (2 * (i : Int)) = 2 * (i : Int) := by rw [IntKind.wrap_u64]; omega
      have hw4 : (f : Int) + 2 + 2 * (i : Int) = (m : Int) := by omega
      have hw5 : IntKind.u64.wrap (m : Int) = (m : Int) := by rw [IntKind.wrap_u64]; omega
      have HM := Lib.hid hm
      have HLT := Lib.hid hlt
      have ho1 := ho.alloc (.cells #[.int .i64 r, .int .u64 (m : Int)] 35)
      have hb1 : Below w.heap.size w (wr.alloc (.cells #[.int .i64 r, .int .u64 (m : Int)] 35)) := hb.alloc hz _
      have hs1 : Sd (wr.alloc (.cells #[.int .i64 r, .int .u64 (m : Int)] 35)) (.slice (some ⟨wr.heap.size, 0, none⟩) 1 1) [(r, m)] := blk_pair (d := (r, m)) (Blk.new _ _ _)
      have hlen : (gaps r f i).length + [(r, m)].length ≤ 1000000 := by rw [gaps_len]; simp; omega
      have hbase : w.heap.size ≤ (wr.alloc (.cells #[.int .i64 r, .int .u64 (m : Int)] 35)).heap.size := hb1.size
      clear hm ho hb hff
      go_wp2_with (refine wpList_append_dots _ rfl (.tmp 34) (.tmp 43) 22 rfl w.heap.size i0 Try.underlying22 hi0 hy0 hy1 hy2 u5 (gaps r f i) rfl ho1 _ [(r, m)] rfl hs1 hlen hbase ?_; intro v' w5 ho6 hgr _ _)
      refine ⟨⟨i + 1, by go_num, by omega, by rw [gaps_snoc, ← HM.out]; exact ho6, ho1.grown hgr hb1 (Nat.le_refl _) hbase⟩, by simp [intOf]; omega⟩
    · obtain rfl : i = 4096 := by omega
      clear hlt hi
      have HO := Lib.hid ho
      obtain ⟨A5, n5, c5, rfl⟩ := ho.shape
      obtain rfl : n5 = 4096 := by rw [HO.out.sd.len, gaps_len]
      clear ho
      have e1 := ofP_ok (w := wr) HFIT.out.len (HO.out.mono (Nat.zero_le _)) (fit_ok HFIT.out) (by rw [gaps_len]; omega)
      rw [← zeros_vec] at e1
      go_wp2_with fail
      refine e1.mono ?_
      rintro e w2 ⟨hc, vc, rfl, hcx, hfc, hb2⟩
      clear e1
      have hb02 := hb.trans (hb2.mono hz)
      have hz2 := hb2.size
      have HO2 := Lib.hid (HO.out.below hb2)
      go_wp2_with fail
      refine (copy_any hc vc zeros (gaps r f 4096) w2 hcx (by rw [gaps_len]; omega)).mono ?_
      rintro e w3 ⟨hd, vd, rfl, hdx, hfd, hb3⟩
      have hcx3 := hcx.below hb3
      have hb03 := hb02.trans (hb3.mono hb02.size)
      have hz3 := hb3.size
      have HO3 := Lib.hid (HO2.out.below hb3)
      clear hcx HO2
      obtain ⟨m, hm⟩ : ∃ m, m = f + 9000 := ⟨_, rfl⟩
      have hff := HF.out
      have hw4 : (f : Int) + 9000 = (m : Int) := by omega
      have hw5 : IntKind.u64.wrap (m : Int) = (m : Int) := by rw [IntKind.wrap_u64]; omega
      have HM := Lib.hid hm
      have hcx4 := hcx3.below ((Below.refl w3.heap.size w3).alloc (Nat.le_refl _) (.cells #[.int .i64 r, .int .u64 (m : Int)] 35))
      have hdx4 := hdx.below ((Below.refl w3.heap.size w3).alloc (Nat.le_refl _) (.cells #[.int .i64 r, .int .u64 (m : Int)] 35))
      have HO4 := Lib.hid (HO3.out.alloc (.cells #[.int .i64 r, .int .u64 (m : Int)] 35))
      have hB4 := Blk.new w3 35 #[.int .i64 r, .int .u64 (m : Int)]
      have hb04 : Below w.heap.size w (w3.alloc (.cells #[.int .i64 r, .int .u64 (m : Int)] 35)) := hb03.alloc hb03.size _
      have hMay := HMAY.out
      have hno := HNO.out
      rw [← hm] at hMay hno
      have e2 := add_full hc vc zeros (gaps r f 4096) (r, m) _ hcx4 hMay hno (by rw [at_zeros]; show m ≠ 0 + 1; omega) (gaps_len _ _ _)
      have HMAY2 := Lib.hid hMay
      clear hcx3 hdx HO3 hb03 hMay hno hm hff hb3
      go_wp2_with fail
      refine e2.mono ?_
      rintro e w5 ⟨rfl, hg5⟩
      have hb5 := hg5.below
      have hcx5 := hcx4.below hb5
      have hdx5 := hdx4.below hb5
      have HO5 := Lib.hid (HO4.out.below hb5)
      have hB5 := hB4.below hb5 hB4.lt
      have hb05 := hb04.trans (hb5.mono hb04.size)
      have hz5 : w3.heap.size + 1 ≤ w5.heap.size := by have := hb5.size; simpa using this
      clear e2 hcx4 hdx4 HO4 hB4 hb04 hb5 hg5
      go_wp2_with fail
      refine (new_any w5).mono ?_
      rintro e w6 ⟨rfl, hox6, hb6⟩
      have hcx6 := hcx5.below hb6
      have hdx6 := hdx5.below hb6
      have HO6 := Lib.hid (HO5.out.below hb6)
      have hB6 := hB5.below hb6 hB5.lt
      have hb06 := hb05.trans (hb6.mono hb05.size)
      have hz6 := hb6.size
      have q0 : w6.cell? ⟨w3.heap.size, 0, none⟩ = some (.int .i64 r) := by rw [hB6.cell]; rfl
      have q1 : w6.cell? ⟨w3.heap.size, 1, none⟩ = some (.int .u64 (m : Int)) := by rw [hB6.cell]; rfl
      have hltc := hcx5.lt
      have hltd := hdx5.lt
      have hlto := HO5.out.lt
      have hltB := hB5.lt
      clear hcx5 hdx5 HO5 hB5 hb05
      go_wp2_with fail
      refine (add_any w5.heap.size (.slice none 0 0) zeros [] (r, m) w6 hox6 (by simp)).mono ?_
      rintro e w7 ⟨rfl, vo, hox, hk7, hn7⟩
      have hFo : ∀ j, Foot w5.heap.size (.slice none 0 0) j → w5.heap.size ≤ j := by
        rintro j (rfl | hj)
        · exact Nat.le_refl _
        · cases hj
      have hcx7 := hcx6.kept hk7 (fun i hi e => by have := hltc i hi; have := hFo i e; omega)
      have hdx7 := hdx6.kept hk7 (fun i hi e => by have := hltd i hi; have := hFo i e; omega)
      have HO7 := Lib.hid (HO6.out.kept hk7 (fun i hi e => by have := (hlto i hi).2; have := hFo i e; omega))
      have hB7 := hB6.kept hk7 (fun e => by have := hFo _ e; omega)
      have hb07 := Keep.below hb06 hk7 hb06.size (fun i hi => by have := hFo i hi; omega)
      have hz7 := hk7.size
      have hfoot : ∀ j, Foot w5.heap.size vo j → w5.heap.size ≤ j := by
        rintro j (rfl | hj)
        · exact Nat.le_refl _
        · rcases hn7 j hj with h | h
          · cases h
          · omega
      have hS := addF_spec (S := (zeros, [])) (d := (r, m)) fit_zero HMAY2.out
      have hadd : addS (zeros, []) (r, m) = addF (zeros, []) (r, m) := by unfold addS; rw [if_pos HMAY2.out]
      rw [hadd] at hox
      have hjI : ∀ x, In zeros (gaps r f 4096 ++ [(r, m)]) x ↔ In zeros (gaps r f 4096) x ∨ In (addF (zeros, []) (r, m)).1 (addF (zeros, []) (r, m)).2 x := fun x => by
        rw [hS.2 x]
        constructor
        · rintro ⟨hM, hx | hx⟩
          · rcases List.mem_append.1 hx with hx | hx
            · exact .inl ⟨hM, .inl hx⟩
            · rw [List.mem_singleton] at hx; exact .inr (.inr hx)
          · exact .inl ⟨hM, .inr hx⟩
        · rintro (⟨hM, hx | hx⟩ | hx | rfl)
          · exact ⟨hM, .inl (List.mem_append_left _ hx)⟩
          · exact ⟨hM, .inr hx⟩
          · exact absurd hx (in_zero x)
          · exact ⟨HMAY2.out, .inl (by simp)⟩
      have hUf : Fit zeros (gaps r f 4096 ++ [(r, m)]) := by rw [HM.out]; exact HMORE.out
      have hSl : (addF (zeros, []) (r, m)).2.length ≤ 4096 := by
        have := addF_short (zeros, []) (r, m)
        simp at this; omega
      have e3 := join_any hc w5.heap.size vc vo zeros _ (gaps r f 4096) _ (zeros, gaps r f 4096 ++ [(r, m)]) w7 hcx7 hox hUf hjI (by rw [gaps_len]; omega) hSl
      have hUl : 4096 < (gaps r f 4096 ++ [(r, m)]).length := by rw [List.length_append, gaps_len]; simp
      have e3 := e3.mono (R' := fun e w' => e = .returned (.int .i64 5) ∧ Below w7.heap.size w7 w') (fun e w' h => h.2 hUl)
      have HUF := Lib.hid hUf
      have HUL := Lib.hid hUl
      clear hcx6 hdx6 HO6 hB6 hb06 q0 q1 hk7 hn7 hS hadd hjI hUf hSl hUl
      go_wp2_with fail
      refine e3.mono ?_
      rintro e w8 ⟨rfl, hb8⟩
      have hcx8 := hcx7.below hb8
      have hdx8 := hdx7.below hb8
      have HO8 := Lib.hid (HO7.out.below hb8)
      have hB8 := hB7.below hb8 hB7.lt
      have hb08 := hb07.trans (hb8.mono hb07.size)
      have hz8 := hb8.size
      have q0 : w8.cell? ⟨w3.heap.size, 0, none⟩ = some (.int .i64 r) := by rw [hB8.cell]; rfl
      have q1 : w8.cell? ⟨w3.heap.size, 1, none⟩ = some (.int .u64 (m : Int)) := by rw [hB8.cell]; rfl
      have ho8 := HO8.out.alloc (.cells #[.int .i64 r, .int .u64 (m : Int)] 35)
      have hb09 : Below w.heap.size w (w8.alloc (.cells #[.int .i64 r, .int .u64 (m : Int)] 35)) := hb08.alloc hb08.size _
      have hcx9 := hcx8.below ((Below.refl w8.heap.size w8).alloc (Nat.le_refl _) (.cells #[.int .i64 r, .int .u64 (m : Int)] 35))
      have hdx9 := hdx8.below ((Below.refl w8.heap.size w8).alloc (Nat.le_refl _) (.cells #[.int .i64 r, .int .u64 (m : Int)] 35))
      have hs1 : Sd (w8.alloc (.cells #[.int .i64 r, .int .u64 (m : Int)] 35)) (.slice (some ⟨w8.heap.size, 0, none⟩) 1 1) [(r, m)] := blk_pair (d := (r, m)) (Blk.new _ _ _)
      have hlen : (gaps r f 4096).length + [(r, m)].length ≤ 1000000 := by rw [gaps_len]; simp
      have hbase : w.heap.size ≤ (w8.alloc (.cells #[.int .i64 r, .int .u64 (m : Int)] 35)).heap.size := hb09.size
      have HLT5 := Lib.hid (show ∀ k, (Value.slice A5 4096 c5).ownBlock = some k → k < wr.heap.size from fun k hk => (HO.out.lt k hk).2)
      have HFC := Lib.hid hfc
      have HFD := Lib.hid hfd
      clear hfc hfd hltc hltd hlto hltB hFo hfoot
      clear e3 hcx7 hdx7 HO7 hB7 hb07 hb8 hcx8 hdx8 hb08
      go_wp2_with (refine wpList_append_dots _ rfl (.tmp 74) (.tmp 76) 22 rfl w.heap.size i0 Try.underlying22 hi0 hy0 hy1 hy2 (.slice A5 4096 c5) (gaps r f 4096) rfl ho8 _ [(r, m)] rfl hs1 hlen hbase ?_; intro v9 w10 ho10 hgr10 _ _)
      have hk10 := Keep.of_grown (S := fun i => (Value.slice A5 4096 c5).ownBlock = some i) hgr10 (fun k hk => hk)
      have hcx10 := hcx9.kept hk10 (fun i hi e => by have := HLT5.out i e; have := HFC.out i hi; omega)
      have hdx10 := hdx9.kept hk10 (fun i hi e => by have := HLT5.out i e; have := HFD.out i hi; omega)
      have hb010 := ho8.grown hgr10 hb09 (Nat.le_refl _) hbase
      have e4 := ofP_full (w := w10) HFIT.out.len (ho10.mono (Nat.zero_le _)) (fit_ok HUF.out) HUL.out (by rw [List.length_append, gaps_len]; simp)
      rw [← zeros_vec] at e4
      obtain ⟨A9, n9, c9, rfl⟩ := ho10.shape
      clear q0 q1 ho8 hb09 hcx9 hdx9 hs1 hlen hbase hgr10 hk10 HO8 hB8
      refine e4.mono ?_
      rintro e w11 ⟨rfl, hb11⟩
      have hcx11 := hcx10.below hb11
      have hdx11 := hdx10.below hb11
      have hb011 := hb010.trans (hb11.mono hb010.size)
      obtain ⟨m3, hm3⟩ : ∃ m, m = f + 2 := ⟨_, rfl⟩
      have hff := HF.out
      have hw6 : (f : Int) + 2 = (m3 : Int) := by omega
      have hw7 : IntKind.u64.wrap (m3 : Int) = (m3 : Int) := by rw [IntKind.wrap_u64]; omega
      have e5 := add_old hc vc zeros (gaps r f 4096) (r, m3) w11 hcx11 (by rw [hm3]; exact HFIR.out) (by rw [hm3]; exact HFIRST.out) (by rw [gaps_len]; omega)
      clear hcx10 hdx10 hb010 hb11 ho10 e4 hm3 hff
      go_wp2_with fail
      refine e5.mono ?_
      rintro e w12 ⟨rfl, hg12⟩
      have hb12 := hg12.below
      have hcx12 := hcx11.below hb12
      have hdx12 := hdx11.below hb12
      have hb012 := hb011.trans (hb12.mono hb011.size)
      have e6 := same_any hc hd vc vd _ _ _ _ w12 hcx12 hdx12 (by rw [gaps_len]; omega) (by rw [gaps_len]; omega)
      rw [decide_eq_true ⟨rfl, rfl⟩] at e6
      clear e5 hcx11 hdx11 hb011 hb12 hg12
      go_wp2_with fail
      refine e6.mono ?_
      rintro e w13 ⟨rfl, hb13⟩
      have hb013 := hb012.trans (hb13.mono hb012.size)
      clear e6 hcx12 hdx12 hb012 hb13
      go_wp2_with fail
      refine (known_any w13).mono ?_
      rintro e w14 ⟨rfl, hb14⟩
      go_wp2
      go_ret
      exact ⟨rfl, hb013.trans (hb14.mono hb013.size)⟩
end Go.Proofs.Ytoglhpcboonpeaa

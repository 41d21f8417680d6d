/-
  A loss of power and an opening behind it, plainly.
-/
import Derived.Test.YtibifnknkphanaaGreatDoorWOpsA
import Derived.Test.YtibifnknkphanaaGreatDoorWOnce
import Derived.Test.YtibifnknkphanaaGreatDoorWWhole
import Derived.Test.YtibifnknkphanaaGreatDoorWStepA
namespace Go.Proofs.YtibifnknkphanaaGreatDoor
open Go.RowKit
open DskM WalM
set_option linter.unusedVariables false
set_option linter.unusedSimpArgs false

theorem kept_in (la len : Nat) (keep : List Int) (h : la ≤ len) : la ≤ (keptN la len keep).1 ∧ (keptN la len keep).1 ≤ len := by
  unfold keptN
  split
  · cases keep with
    | nil => exact ⟨Nat.le_refl _, h⟩
    | cons k r =>
      dsimp only
      have := Nat.mod_lt (max k 0).toNat (show 0 < len - la + 1 by omega)
      omega
  · dsimp only; omega
theorem crash_one (keep : List Int) (n bs : List UInt8) (la : Nat) (h : la ≤ bs.length) : ∃ m, la ≤ m ∧ m ≤ bs.length ∧ crashP keep [(n, bs, la)] = [(n, bs.take m, m)] := by
  obtain ⟨h1, h2⟩ := kept_in la bs.length keep h
  exact ⟨_, h1, h2, rfl⟩
theorem crash_two (keep : List Int) (nm : ByteArray) (k : Nat) (x1 x2 : List UInt8 × Nat) (h1 : x1.2 ≤ x1.1.length) (h2 : x2.2 ≤ x2.1.length) :
    ∃ m1 m2, x1.2 ≤ m1 ∧ m1 ≤ x1.1.length ∧ x2.2 ≤ m2 ∧ m2 ≤ x2.1.length ∧ crashP keep (gF2 nm k x1 x2) = gF2 nm k (x1.1.take m1, m1) (x2.1.take m2, m2) := by
  unfold gF2
  split
  · have a := kept_in x2.2 x2.1.length keep h2
    have b := kept_in x1.2 x1.1.length (keptN x2.2 x2.1.length keep).2 h1
    exact ⟨_, _, b.1, b.2, a.1, a.2, rfl⟩
  · have a := kept_in x1.2 x1.1.length keep h1
    have b := kept_in x2.2 x2.1.length (keptN x1.2 x1.1.length keep).2 h2
    exact ⟨_, _, a.1, a.2, b.1, b.2, rfl⟩
section
variable {nm : ByteArray} {k : Nat} {x1 x2 : List UInt8 × Nat}
theorem gcut_new (hn : Nm1 nm) (hk : k + 1 ≤ 2147483647) (x1 : List UInt8 × Nat) (S : Ds) (x : List UInt8 × Nat) (e : Nat) (he : e ≤ x.1.length) : cutS S (gF2 nm k x1 x) (seg nm.data.toList (k + 1)) (e : Nat) = writeS S (gF2 nm k x1 (x.1.take e, min x.2 e)) (gF2 nm k x1 x) (gF2 nm k x1 x) := by
  unfold cutS
  rw [if_pos ⟨may_seg hn.may hn.len hk, by omega⟩, g2_new hk]
  dsimp only
  rw [if_neg (by omega), g2_set hk]
  rfl
theorem gcut_old (hn : Nm1 nm) (hk : k + 1 ≤ 2147483647) (x2 : List UInt8 × Nat) (S : Ds) (x : List UInt8 × Nat) (e : Nat) (he : e ≤ x.1.length) : cutS S (gF2 nm k x x2) (seg nm.data.toList k) (e : Nat) = writeS S (gF2 nm k (x.1.take e, min x.2 e) x2) (gF2 nm k x x2) (gF2 nm k x x2) := by
  unfold cutS
  rw [if_pos ⟨may_seg hn.may hn.len (by omega), by omega⟩, g2_old hk]
  dsimp only
  rw [if_neg (by omega), g2_setold hk]
  rfl
/-- Two segments, the newer one whole. -/
theorem gopen_new (hn : Nm1 nm) (hk1 : 1 ≤ k) (hk : k + 1 ≤ 2147483647) (b : List UInt8) (hb : b.length ≤ 1048576) :
    ∃ wr, openL nm tS0 (gF2 nm k x1 ((recP b).take (8 + b.length), 8 + b.length)) = (0, tS wr, gF nm (k + 1) b [] (flat [b]).length, gL (k + 1) b [] 0) ∧ wr ≤ 3 := by
  have hall : ∀ x ∈ [b], x.length ≤ 1048576 := fun x hx => by rw [List.mem_singleton.1 hx]; exact hb
  have hfl : (flat [b]).length = 8 + b.length := by have := recP_length b; rw [flat_one]; omega
  obtain ⟨wr, h1, h2⟩ := gtake (nm := nm) (k := k + 1) (sn := b) (rs := []) (S := tS0) hk hn rfl rfl (8 + b.length) (8 + b.length) hall (Nat.le_refl _) (by rw [hfl]; exact Nat.le_refl _) (fun x => gF2 nm k x1 x) (gcut_new hn hk x1) (fun S x => gsync2 hn hk) [removeP (seg nm.data.toList k)]
  rw [flat_one] at h1
  have hc : cutK (8 + b.length - (8 + b.length)) ([] : List (List UInt8)) = [] := rfl
  rw [hc] at h1
  refine ⟨wr + 1, ?_, by have : tS0.wr = 0 := rfl; omega⟩
  unfold openL openSteps
  rw [nums_two hk1 hk]
  show runP (openAt nm _ [k, k + 1] 2) _ _ _ = _
  rw [openAt]
  have hw : wholeP ((recP b).take (8 + b.length)) = endsP 0 [b] := by
    have := whole_take [b] (8 + b.length) hall
    rw [flat_one, cutK, if_pos (Nat.le_refl _)] at this
    exact this
  show runP (if (wholeP (bytesP _ (segS nm (k + 1)).data.toList)).isEmpty = true then _ else takeSteps nm (k + 1) (bytesP _ (segS nm (k + 1)).data.toList) ++ remsP nm ([k, k + 1].eraseIdx 1)) _ _ _ = _
  rw [bytes_new hn hk, hw, if_neg (by simp [endsP])]
  refine h1.trans ?_
  have t5 : removeP (seg nm.data.toList k) ⟨tS0.cap, -1, false, wr⟩ (gF2 nm k x1 (flat [b], (flat [b]).length)) (gL (k + 1) b [] 0) = (0, tS (wr + 1), [(seg nm.data.toList (k + 1), (flat [b], (flat [b]).length))], gL (k + 1) b [] 0) :=
    gremP _ _ ((grem2 hn hk).trans (gw_ok rfl (by show ¬ ((-1 : Int) = 0); decide))) (by decide)
  exact (run_ok t5).trans rfl
/-- Two segments, the newer one not whole. -/
theorem gopen_old (hn : Nm1 nm) (hk1 : 1 ≤ k) (hk : k + 1 ≤ 2147483647) (b : List UInt8) (hb : b.length ≤ 1048576) (m2 l2 : Nat) (hm2 : m2 < 8 + b.length) (sn : List UInt8) (rs : List (List UInt8)) (m l : Nat) (hall : ∀ b ∈ sn :: rs, b.length ≤ 1048576) (hm : 8 + sn.length ≤ m) (hml : m ≤ (flat (sn :: rs)).length) :
    ∃ wr, openL nm tS0 (gF2 nm k ((flat (sn :: rs)).take m, l) ((recP b).take m2, l2)) = (0, tS wr, gF nm k sn (cutK (m - (8 + sn.length)) rs) (flat (sn :: cutK (m - (8 + sn.length)) rs)).length, gL k sn (cutK (m - (8 + sn.length)) rs) (cutK (m - (8 + sn.length)) rs).length) ∧ wr ≤ 3 := by
  have hall2 : ∀ x ∈ [b], x.length ≤ 1048576 := fun x hx => by rw [List.mem_singleton.1 hx]; exact hb
  obtain ⟨wr, h1, h2⟩ := gtake (nm := nm) (k := k) (sn := sn) (rs := rs) (S := tS0) (by omega) hn rfl rfl m l hall hm hml (fun x => gF2 nm k x ((recP b).take m2, l2)) (gcut_old hn hk _) (fun S x => gsync2old hn hk) [removeP (seg nm.data.toList (k + 1))]
  refine ⟨wr + 1, ?_, by have : tS0.wr = 0 := rfl; omega⟩
  unfold openL openSteps
  rw [nums_two hk1 hk]
  show runP (openAt nm _ [k, k + 1] 2) _ _ _ = _
  have hw2 : wholeP ((recP b).take m2) = [] := by
    have := whole_take [b] m2 hall2
    rw [flat_one, cutK, if_neg (by omega)] at this
    exact this
  have hw : wholeP ((flat (sn :: rs)).take m) = endsP 0 (sn :: cutK (m - (8 + sn.length)) rs) := by rw [whole_take _ _ hall, cutK, if_pos hm]
  rw [openAt]
  show runP (if (wholeP (bytesP _ (segS nm (k + 1)).data.toList)).isEmpty = true then _ else _) _ _ _ = _
  rw [bytes_new hn hk, hw2, if_pos (by rfl), openAt]
  show runP (if (wholeP (bytesP _ (segS nm k).data.toList)).isEmpty = true then _ else takeSteps nm k (bytesP _ (segS nm k).data.toList) ++ remsP nm ([k, k + 1].eraseIdx 0)) _ _ _ = _
  rw [bytes_old hn hk, hw, if_neg (by simp [endsP])]
  refine h1.trans ?_
  have t5 : ∀ x L, removeP (seg nm.data.toList (k + 1)) ⟨tS0.cap, -1, false, wr⟩ (gF2 nm k x ((recP b).take m2, l2)) L = (0, tS (wr + 1), [(seg nm.data.toList k, x)], L) := fun x L =>
    gremP _ _ ((grem2new hn hk).trans (gw_ok rfl (by show ¬ ((-1 : Int) = 0); decide))) (by decide)
  exact (run_ok (t5 _ _)).trans rfl
end
/-- What the files must have: the snapshot, all records as far as they go, the sure ones lasting. -/
structure Cov (sn : List UInt8) (all sure : List (List UInt8)) (la : Nat) : Prop where
  pre : sure <+: all
  sure : (flat (sn :: sure)).length ≤ la
  la : la ≤ (flat (sn :: all)).length
  small : ∀ b ∈ sn :: all, b.length ≤ 20000
inductive Fs (F : List Fp) (sn said : List UInt8) (all sure : List (List UInt8)) (turning : Bool) : Prop
  | one (k la : Nat) (hk1 : 1 ≤ k) (hk : k ≤ 1000) (hF : F = gF nmW k sn all la) (hc : Cov sn all sure la)
  | two (k la l2 : Nat) (hk1 : 1 ≤ k) (hk : k ≤ 1000) (hF : F = gF2 nmW k (flat (sn :: all), la) (recP said, l2)) (hl : l2 ≤ (recP said).length) (hs : said.length ≤ 20000) (ht : turning = true) (hc : Cov sn all sure la)
theorem cov_got {sn : List UInt8} {all sure : List (List UInt8)} {la m : Nat} (hc : Cov sn all sure la) (hm : la ≤ m) : 8 + sn.length ≤ m ∧ sure <+: cutK (m - (8 + sn.length)) all ∧ cutK (m - (8 + sn.length)) all <+: all := by
  have h1 := hc.sure
  rw [flat_cons, List.length_append, recP_length] at h1
  refine ⟨by omega, ?_, ?_⟩
  · obtain ⟨t, ht⟩ := hc.pre
    rw [← ht, cutK_keeps sure t _ (by omega)]
    exact List.prefix_append _ _
  · obtain ⟨j, _, e⟩ := cutK_take all (m - (8 + sn.length))
    rw [e]
    exact List.take_prefix _ _
/-- An opening behind a loss of power. -/
theorem back_open {F : List Fp} {sn said : List UInt8} {all sure : List (List UInt8)} {turning : Bool} (h : Fs F sn said all sure turning) (keep : List Int) :
    ∃ k wr sn' got, openL nmW tS0 (crashP keep F) = (0, tS wr, gF nmW k sn' got (flat (sn' :: got)).length, gL k sn' got got.length) ∧ 1 ≤ k ∧ k ≤ 1001 ∧ wr ≤ 3 ∧ (∀ b ∈ sn' :: got, b.length ≤ 20000) ∧ got.length ≤ all.length ∧
      ((sn' = sn ∧ sure <+: got ∧ got <+: all) ∨ (turning = true ∧ sn' = said ∧ got = [])) := by
  rcases h with ⟨k, la, hk1, hk, hF, hc⟩ | ⟨k, la, l2, hk1, hk, hF, hl, hs, ht, hc⟩
  · subst hF
    obtain ⟨m, hm1, hm2, e⟩ := crash_one keep (seg nmW.data.toList k) (flat (sn :: all)) la hc.la
    obtain ⟨g1, g2, g3⟩ := cov_got hc hm1
    obtain ⟨wr, h1, h2⟩ := gopen1 (nm := nmW) (k := k) (S := tS0) nmW1 hk1 (by omega) rfl rfl m m (fun b hb => Nat.le_trans (hc.small b hb) (by omega)) g1 hm2
    refine ⟨k, wr, sn, _, ?_, hk1, by omega, by have : tS0.wr = 0 := rfl; omega, fun b hb => hc.small b ?_, g3.length_le, .inl ⟨rfl, g2, g3⟩⟩
    · show openL nmW tS0 (crashP keep [_]) = _
      rw [e]; exact h1
    · rcases List.mem_cons.1 hb with rfl | hb
      · exact List.mem_cons_self ..
      · exact List.mem_cons_of_mem _ (g3.subset hb)
  · subst hF
    obtain ⟨m, m2, a1, a2, a3, a4, e⟩ := crash_two keep nmW k (flat (sn :: all), la) (recP said, l2) hc.la hl
    dsimp only at a1 a2 a3 a4 e
    obtain ⟨g1, g2, g3⟩ := cov_got hc a1
    rw [e]
    have hrl := recP_length said
    by_cases hm : m2 = 8 + said.length
    · subst hm
      obtain ⟨wr, h1, h2⟩ := gopen_new (nm := nmW) (k := k) (x1 := ((flat (sn :: all)).take m, m)) nmW1 hk1 (by omega) said (by omega)
      exact ⟨k + 1, wr, said, [], h1, by omega, by omega, h2, fun b hb => by rw [List.mem_singleton.1 hb]; exact hs, Nat.zero_le _, .inr ⟨ht, rfl, rfl⟩⟩
    · obtain ⟨wr, h1, h2⟩ := gopen_old (nm := nmW) (k := k) nmW1 hk1 (by omega) said (by omega) m2 m2 (by omega) sn all m m (fun b hb => Nat.le_trans (hc.small b hb) (by omega)) g1 a2
      refine ⟨k, wr, sn, _, h1, hk1, by omega, h2, fun b hb => hc.small b ?_, g3.length_le, .inl ⟨rfl, g2, g3⟩⟩
      rcases List.mem_cons.1 hb with rfl | hb
      · exact List.mem_cons_self ..
      · exact List.mem_cons_of_mem _ (g3.subset hb)
/-- .. and once more. -/
theorem back_again (k : Nat) (sn : List UInt8) (got : List (List UInt8)) (h1 : 1 ≤ k) (hk : k ≤ 1001) (hb : ∀ b ∈ sn :: got, b.length ≤ 20000) :
    ∃ wr, openL nmW tS0 (crashP [] (gF nmW k sn got (flat (sn :: got)).length)) = (0, tS wr, gF nmW k sn got (flat (sn :: got)).length, gL k sn got got.length) ∧ wr ≤ 3 := by
  have hfl : (flat (sn :: got)).length = 8 + sn.length + (flat got).length := by have := recP_length sn; rw [flat_cons, List.length_append]; omega
  obtain ⟨wr, h3, h4⟩ := gopen1 (nm := nmW) (k := k) (sn := sn) (rs := got) (S := tS0) nmW1 h1 (by omega) rfl rfl (flat (sn :: got)).length (flat (sn :: got)).length (fun b h => Nat.le_trans (hb b h) (by omega)) (by omega) (Nat.le_refl _)
  refine ⟨wr, ?_, by have : tS0.wr = 0 := rfl; omega⟩
  rw [cutK_all got _ (by omega)] at h3
  have e : crashP [] (gF nmW k sn got (flat (sn :: got)).length) = [(seg nmW.data.toList k, (flat (sn :: got)).take (flat (sn :: got)).length, (flat (sn :: got)).length)] := by
    unfold gF
    rw [crashP]
    dsimp only
    rw [keptN_all]
    rfl
  rw [e]
  exact h3
/-! Step by step. -/
section
variable {nm : ByteArray} {k la y : Nat} {sn b : List UInt8} {rs : List (List UInt8)} {S : Ds}
theorem gappend_torn (hn : Nm1 nm) (hk : k ≤ 2147483647) (hd : S.dead = false) (hf : S.fuse = 0) (hb : b.length ≤ 1048576) (hfit : (flat (sn :: rs)).length + (8 + b.length) ≤ S.cap) :
    appendL nm S (gF nm k sn rs la) (gL k sn rs y) b = (8, S.gone, gF nm k sn (rs ++ [b]) la, { gL k sn rs y with dead := true }) := by
  have h1 : appendNowP nm (recP b) S (gF nm k sn rs la) (gL k sn rs y) = (8, S.gone, gF nm k sn (rs ++ [b]) la, gL k sn rs y) :=
    wrP_is (fun S F => appendS S F (seg nm.data.toList (gL k sn rs y).num) (recP b)) ((gappS hn hk hd hfit).trans (gw_torn hd hf))
  unfold appendL
  rw [if_neg (by omega), if_neg (by show ¬ (false = true); simp), run_no h1 (by decide)]
  rfl
theorem gsync_torn (hn : Nm1 nm) (hk : k ≤ 2147483647) (hd : S.dead = false) (hf : S.fuse = 0) :
    syncL nm S (gF nm k sn rs la) (gL k sn rs y) = (8, S.gone, gF nm k sn rs la, { gL k sn rs y with dead := true }) := by
  have h1 : syncNowP nm S (gF nm k sn rs la) (gL k sn rs y) = (8, S.gone, gF nm k sn rs la, gL k sn rs y) :=
    wrP_is (fun S F => syncS S F (seg nm.data.toList (gL k sn rs y).num)) ((gsyncS hn hk).trans (gw_torn hd hf))
  unfold syncL
  rw [if_neg (by show ¬ (false = true); simp), run_no h1 (by decide)]
  rfl
end
/-- Alive, behind i steps. -/
structure Al (i cum : Nat) (S : Ds) (F : List Fp) (L : Lg) (sn : List UInt8) (all sure : List (List UInt8)) : Prop where
  cap : S.cap = 200000
  dead : S.dead = false
  wr : S.wr ≤ 2 + 3 * i
  rest : ∃ k la y, F = gF nmW k sn all la ∧ L = gL k sn all y ∧ 1 ≤ k ∧ k ≤ 1 + i ∧ Cov sn all sure la ∧ (flat (sn :: all)).length ≤ 8 + cum ∧ all.length ≤ i
inductive St (i cum : Nat) (S : Ds) (F : List Fp) (L : Lg) (sn said : List UInt8) (all sure : List (List UInt8)) (turning : Bool) : Prop
  | alive (h : Al i cum S F L sn all sure) (ht : turning = false)
  | dead (hd : S.dead = true) (hc : S.cap = 200000) (hw : S.wr ≤ 2 + 3 * i) (hl : L.recs.length ≤ i) (ha : all.length ≤ i) (h : Fs F sn said all sure turning)
section
variable {i cum : Nat} {S : Ds} {F : List Fp} {L : Lg} {sn said b : List UInt8} {all sure : List (List UInt8)} {turning : Bool}
theorem Al.fs (h : Al i cum S F L sn all sure) (hi : i ≤ 900) (said : List UInt8) (turning : Bool) : Fs F sn said all sure turning := by
  obtain ⟨k, la, y, hF, hL, h1, h2, hc, _⟩ := h.rest
  exact .one k la h1 (by omega) hF hc
theorem St.fs (h : St i cum S F L sn said all sure turning) (hi : i ≤ 900) : Fs F sn said all sure turning := by
  rcases h with ⟨h, ht⟩ | ⟨_, _, _, _, _, h⟩
  · exact h.fs hi _ _
  · exact h
theorem St.capIs (h : St i cum S F L sn said all sure turning) : S.cap = 200000 := by
  rcases h with ⟨h, ht⟩ | ⟨_, h, _⟩
  · exact h.cap
  · exact h
theorem St.allLe (h : St i cum S F L sn said all sure turning) : all.length ≤ i := by
  rcases h with ⟨h, ht⟩ | ⟨_, _, _, _, h, _⟩
  · obtain ⟨k, la, y, _, _, _, _, _, _, h⟩ := h.rest
    exact h
  · exact h
theorem St.turn (h : St i cum S F L sn said all sure turning) (hd : S.dead = false) : Al i cum S F L sn all sure ∧ turning = false := by
  rcases h with ⟨h, ht⟩ | ⟨h, _⟩
  · exact ⟨h, ht⟩
  · rw [hd] at h; cases h
theorem Al.allLen (h : Al i cum S F L sn all sure) : all.length ≤ i := by
  obtain ⟨k, la, y, _, hL, _, _, _, _, h⟩ := h.rest
  exact h
theorem Al.recs (h : Al i cum S F L sn all sure) : L.recs.length ≤ i := by
  obtain ⟨k, la, y, _, hL, _, _, _, _, h⟩ := h.rest
  rw [hL]
  exact h
theorem Al.skip (h : Al i cum S F L sn all sure) (c : Nat) : Al (i + 1) (cum + c) S F L sn all sure := by
  obtain ⟨k, la, y, hF, hL, h1, h2, hc, h3, h4⟩ := h.rest
  exact ⟨h.cap, h.dead, by have := h.wr; omega, k, la, y, hF, hL, h1, by omega, hc, by omega, by omega⟩
theorem Al.append (h : Al i cum S F L sn all sure) (hi : i ≤ 900) (hcum : 8 + cum + (8 + b.length) ≤ 60000) (hb : b.length ≤ 20000) (said : List UInt8) :
    St (i + 1) (cum + (8 + b.length)) (appendL nmW S F L b).2.1 (appendL nmW S F L b).2.2.1 (appendL nmW S F L b).2.2.2 sn said (all ++ [b]) sure false := by
  obtain ⟨k, la, y, hF, hL, h1, h2, hc, h3, h4⟩ := h.rest
  subst hF hL
  have hfl := flat_len_snoc sn b all
  have hc' : Cov sn (all ++ [b]) sure la := ⟨hc.pre.trans (List.prefix_append _ _), hc.sure, by have := hc.la; omega, fun x hx => by
    rcases List.mem_cons.1 hx with rfl | hx
    · exact hc.small _ (List.mem_cons_self ..)
    · rcases List.mem_append.1 hx with hx | hx
      · exact hc.small _ (List.mem_cons_of_mem _ hx)
      · rw [List.mem_singleton.1 hx]; exact hb⟩
  have hcp := h.cap
  have hw := h.wr
  by_cases hf : S.fuse = 0
  · rw [gappend_torn nmW1 (by omega) h.dead hf (by omega) (by omega)]
    exact .dead rfl hcp (by show S.wr + 1 ≤ _; omega) (by show all.length ≤ _; omega) (by rw [List.length_append, List.length_singleton]; omega) (.one k la h1 (by omega) rfl hc')
  · rw [gappend nmW1 (by omega) h.dead hf (by omega) (by omega) (by omega)]
    exact .alive ⟨hcp, h.dead, by show S.wr + 1 ≤ _; omega, k, la, y, rfl, rfl, h1, by omega, hc', by omega, by rw [List.length_append, List.length_singleton]; omega⟩ rfl
theorem Al.sync (h : Al i cum S F L sn all sure) (hi : i ≤ 900) (said : List UInt8) (c : Nat) :
    ((syncL nmW S F L).1 = 0 ∧ St (i + 1) (cum + c) (syncL nmW S F L).2.1 (syncL nmW S F L).2.2.1 (syncL nmW S F L).2.2.2 sn said all all false) ∨ ((syncL nmW S F L).1 = 8 ∧ St (i + 1) (cum + c) (syncL nmW S F L).2.1 (syncL nmW S F L).2.2.1 (syncL nmW S F L).2.2.2 sn said all sure false) := by
  obtain ⟨k, la, y, hF, hL, h1, h2, hc, h3, h4⟩ := h.rest
  subst hF hL
  have hcp := h.cap
  have hw := h.wr
  by_cases hf : S.fuse = 0
  · rw [gsync_torn nmW1 (by omega) h.dead hf]
    exact .inr ⟨rfl, .dead rfl hcp (by show S.wr + 1 ≤ _; omega) (by show all.length ≤ _; omega) (by omega) (.one k la h1 (by omega) rfl hc)⟩
  · rw [gsync nmW1 (by omega) h.dead hf]
    exact .inl ⟨rfl, .alive ⟨hcp, h.dead, by show S.wr + 1 ≤ _; omega, k, _, _, rfl, rfl, h1, by omega, ⟨List.prefix_refl _, Nat.le_refl _, Nat.le_refl _, hc.small⟩, by omega, by omega⟩ rfl⟩
theorem Al.turn (h : Al i cum S F L sn all sure) (hi : i ≤ 900) (hcum : 8 + cum + (8 + b.length) ≤ 60000) (hb : b.length ≤ 20000) :
    ((turnL nmW S F L b).1 = 0 ∧ St (i + 1) (cum + (8 + b.length)) (turnL nmW S F L b).2.1 (turnL nmW S F L b).2.2.1 (turnL nmW S F L b).2.2.2 b b [] [] false) ∨ ((turnL nmW S F L b).1 = 8 ∧ St (i + 1) (cum + (8 + b.length)) (turnL nmW S F L b).2.1 (turnL nmW S F L b).2.2.1 (turnL nmW S F L b).2.2.2 sn b all sure true) := by
  obtain ⟨k, la, y, hF, hL, h1, h2, hc, h3, h4⟩ := h.rest
  subst hF hL
  have hcp := h.cap
  have hw := h.wr
  have hrl := recP_length b
  have hfl : (flat [b]).length = 8 + b.length := by rw [flat_one]; omega
  rw [gturn nmW1 (by omega) h.dead (by omega) (by omega)]
  have hsd : S.step.dead = false := h.dead
  split
  · exact .inr ⟨rfl, .dead rfl hcp (by show S.wr + 1 ≤ _; omega) (by show all.length ≤ _; omega) (by omega) (.two k la 0 h1 (by omega) rfl (Nat.zero_le _) hb rfl hc)⟩
  · split
    · exact .inr ⟨rfl, .dead rfl hcp (by show S.wr + 1 + 1 ≤ _; omega) (by show all.length ≤ _; omega) (by omega) (.two k la 0 h1 (by omega) rfl (Nat.zero_le _) hb rfl hc)⟩
    · split
      · exact .inr ⟨rfl, .dead rfl hcp (by show S.wr + 1 + 1 + 1 ≤ _; omega) (by show 0 ≤ _; omega) (by omega) (.two k la _ h1 (by omega) rfl (Nat.le_refl _) hb rfl hc)⟩
      · refine .inl ⟨rfl, .alive ⟨hcp, h.dead, by show S.wr + 1 + 1 + 1 ≤ _; omega, k + 1, _, _, rfl, rfl, by omega, by omega, ⟨List.prefix_refl _, by omega, by omega, fun x hx => by rw [List.mem_singleton.1 hx]; exact hb⟩, by omega, Nat.zero_le _⟩ rfl⟩
end
/-- The beginning. -/
theorem st_start (n : Int) (said : List UInt8) : St 0 0 (fuseS (tS 2) n) (gF nmW 1 [] [] 8) (gL 1 [] [] 0) [] said [] [] false :=
  .alive ⟨rfl, rfl, Nat.le_refl _, 1, 8, 0, rfl, rfl, Nat.le_refl _, by omega, ⟨List.prefix_refl _, by decide +kernel, by decide +kernel, fun x hx => by rw [List.mem_singleton.1 hx]; simp⟩, by decide +kernel, Nat.le_refl _⟩ rfl
end Go.Proofs.YtibifnknkphanaaGreatDoor

/-
  The laws' gather: a log's records in a list; and begins.
-/
namespace Go.Proofs.YtibifnknkphanaaGreatDoor
open Go.RowKit Go.Maps Go.Shelf
open DskM WalM
set_option linter.unusedVariables false
set_option linter.unusedSimpArgs false
set_option maxRecDepth 100000
attribute [local go_sem] Oper.semAt_some

/-- What the body has gathered. -/
def GaI (w0 : World) (hi : Nat) (pre : List RecV) (W : World) : Prop :=
  Below w0.heap.size w0 W ∧ hi ≤ W.heap.size ∧ ∃ vr, Blk W w0.heap.size 27 #[vr] ∧ W.ownsRow hi 22 1 vr pre.length (pre.map (·.1)) ∧ ∀ x ∈ pre, Own W hi 5 x.1 x.2
theorem GaI.abs {w0 : World} {hi B : Nat} (hB : w0.heap.size ≤ B) : Abs B StR (GaI w0 hi) := by
  refine ⟨?_, ?_, ?_⟩
  · rintro pre W l o o' ⟨hb, hs, vr, b2, hr, hx⟩ hl hlo hc _
    have hk := blk_putw (o' := o') hlo hc
    exact ⟨hb.grown (grownBy_putObj' W l o') hb.size (fun k e => by injection e with e; omega), Nat.le_trans hs (grownBy_putObj' W l o').size, vr, hk _ _ _ b2, row_kept hr (fun k cs => hk k _ cs), fun x hx' => row_kept (hx x hx') (fun k cs => hk k _ cs)⟩
  · rintro pre W o ⟨hb, hs, vr, b2, hr, hx⟩
    exact ⟨hb.alloc hb.size _, Nat.le_trans hs (by simp), vr, b2.alloc _, row_kept hr (fun k cs hb => hb.alloc _), fun x hx' => row_kept (hx x hx') (fun k cs hb => hb.alloc _)⟩
  · rintro pre A B' ⟨hb, hs, vr, b2, hr, hx⟩ hst
    exact ⟨hb.trans (Below.mono hst hb.size), Nat.le_trans hs hst.size, vr, b2.below hst b2.lt, row_kept hr (fun k cs hb => hb.below hst hb.lt), fun x hx' => row_kept (hx x hx') (fun k cs hb => hb.below hst hb.lt)⟩
set_option maxHeartbeats 8000000 in
theorem gather_any (T X : Nat → Prop) (P : Option Addr) (w : World) (ls : List (List UInt8)) (hr : RecsOk T X w P ls) (hT : ∀ k, T k → k < w.heap.size) (hl : ls.length ≤ 2000001) (hll : ∀ l ∈ ls, l.length ≤ 1000000000) :
    Calls Tryz.prog 24 #[.pointer P] w fun e w' => ∃ v, e = .returned v ∧ Sls w' v ls ∧ Below w.heap.size w w' := by
  obtain ⟨i0, hi, hy0, hy1, hy2⟩ := info_parts info_sl
  have hfn := wfunc_nil
  obtain ⟨w1, hw1⟩ : ∃ w1, w1 = w.alloc (.cells #[.slice none 0 0] 27) := ⟨_, rfl⟩
  have hb0 : Below w.heap.size w w1 := by rw [hw1]; exact al_one w _
  have hz1 : w1.heap.size = w.heap.size + 1 := by rw [hw1]; simp
  have hbr : Blk w1 w.heap.size 27 #[.slice none 0 0] := by rw [hw1]; exact Blk.new w _ _
  have hcf := hr w1 hb0
  have HW1 := Lib.hid hw1
  have HB0 := Lib.hid hb0
  have HBR := Lib.hid hbr
  have HZ1 := Lib.hid hz1
  have HCF := Lib.hid hcf
  have HL := Lib.hid (And.intro hl (And.intro hll hT))
  clear hb0 hbr hz1 hw1 hcf hr hl hll hT
  refine (callsIn_wide (n := 8)).1 ?_
  refine callsIn_of_wp_marks Tryz.func24 rfl trivial ?_ rfl
  simp only [Tryz.ntmps24, List.size_toArray, List.length_cons, List.length_nil, Nat.reduceAdd, Nat.reduceSub, Array.replicate_succ, Array.replicate_zero, List.push_toArray, List.append_toArray, List.nil_append, List.cons_append]
  gi_wp2_with fail
  rw [← HW1.out]
  refine ⟨trivial, (callsIn_wide.2 HCF.out).mono ?_⟩
  rintro e w2 ⟨rfl, ⟨v, hbx, hrow⟩, hb2⟩
  have hz5 : w1.heap.size < w2.heap.size := hbx.lt
  have HSEQ := Lib.hid (rec_seq 7 (by omega) T X w1.heap.size v ls HL.out.1 HL.out.2.1 w2 hbx (fun k hk => by have := HL.out.2.2 k hk; have := HZ1.out; omega) hrow)
  have HI0 := Lib.hid (show GaI w w2.heap.size [] w2 from ⟨HB0.out.trans (hb2.mono HB0.out.size), Nat.le_refl _, _, HBR.out.below hb2 HBR.out.lt, World.ownsRow_nil _ _ _ _, fun x hx => by cases hx⟩)
  have HZ := Lib.hid (show w1.heap.size = w.heap.size + 1 ∧ w1.heap.size < w2.heap.size from ⟨HZ1.out, hz5⟩)
  clear hbx hrow hb2 hz5 HCF
  gi_wp2_with fail
  refine' range_x rfl (by omega) (gf := 114) (lb := #[.pointer (some ⟨w1.heap.size, 0, none⟩)]) rfl trivial recFn_enters HSEQ.out StR.quiet (fun {A B C} h k => KpR.trans h k) ?hKb (Below.refl _ _) (fun _ => rfl) ?hX
    (GaI w w2.heap.size) (fun _ _ _ => False) (GaI.abs (by have := HZ.out; omega)) (fun _ => ⟨fun _ _ _ _ _ h => h.elim, fun _ _ _ h => h.elim, fun _ _ _ h => h.elim⟩) HI0.out _ ?assign ?body ?done ?stop
  case hKb =>
    intro W l o o' hl ho hc _
    have hz := HZ.out
    have hput := blk_putw (o' := o') ho hc
    refine ⟨(grownBy_putObj' W l o').size, fun k cs _ => hput k _ cs, ?_, fun k hk => ?_⟩
    · show (W.heap.setIfInBounds l o')[w1.heap.size]? = _
      rw [Array.getElem?_setIfInBounds_ne (by omega)]
    · show (W.heap.setIfInBounds l o')[k]? = _
      rw [Array.getElem?_setIfInBounds_ne (by have := HL.out.2.2 k hk; omega)]
  case hX =>
    intro x W l o o' hx ho hc
    exact row_kept hx (fun k cs => blk_putw ho hc k _ cs)
  case assign =>
    intro l x W K hK
    dsimp only [encV]
    gi_wp2
    exact hK
  case stop =>
    intro D c pre W hD' _ h _
    exact h.elim
  case body =>
    intro l pre x W hI hX hlen
    obtain ⟨hb, hs, vr, b2, hr, hx⟩ := hI
    obtain ⟨Ar, cr, hvr⟩ := row_shape hr
    obtain ⟨xv, xl⟩ := x
    dsimp only at hX ⊢
    obtain ⟨Ax, nx, cx, hax⟩ := hX.shape
    subst hvr hax
    have q1 : W.cell? ⟨w.heap.size, 0, none⟩ = some (.slice Ar pre.length cr) := by rw [b2.cell]; rfl
    have f1 := b2.frozen 0
    have hoa := hr.alloc (.cells #[.slice Ax nx cx] 22)
    have hcel : ∀ (j : Nat) (u : Value), [(.slice Ax nx cx : Value)][j]? = some u → (W.alloc (.cells #[.slice Ax nx cx] 22)).cell? ((⟨W.heap.size, 0, none⟩ : Addr).add j) = some u := by
      intro j u hu
      have hj : j = 0 := by
        have := (List.getElem?_eq_some_iff.1 hu).1
        simpa using this
      subst hj
      rw [add_plain, (Blk.new W 22 #[.slice Ax nx cx]).cell]
      simpa using hu
    have hone : ∀ u ∈ [(.slice Ax nx cx : Value)], u.oneCell' = true := by
      intro u hu
      obtain rfl := List.mem_singleton.1 hu
      rfl
    have hpl : pre.length < 2000001 := by have := HL.out.1; omega
    have hl63 : pre.length + 1 ≤ maxLen := by unfold maxLen; omega
    have hby : (pre.length + 1) * 24 ≤ 140737488355328 := by omega
    have hbs : w2.heap.size ≤ (W.alloc (.cells #[.slice Ax nx cx] 22)).heap.size := by simp; omega
    have HOA := Lib.hid hoa
    have HCEL := Lib.hid hcel
    have HONE := Lib.hid hone
    have HALL := Lib.hid (And.intro hb (And.intro hs (And.intro b2 (And.intro hr hx))))
    have HX := Lib.hid hX
    clear hoa hcel hone hb hs b2 hr hx hX hpl hlen
    gi_wp2_with (gi_at_builtin; go_loud (refine wpListIn_append_own_at _ rfl _ _ 27 rfl w2.heap.size 22 i0 (.slice none 0 0) 1 24 Tryz.underlying27 hi hy0 hy1 hy2 rfl (by decide) (.slice Ar pre.length cr) pre.length (pre.map (·.1)) rfl HOA.out ⟨W.heap.size, 0, none⟩ 1 1 [.slice Ax nx cx] rfl rfl HCEL.out HONE.out hl63 hby hbs ?_))
    intro v' w3 ho3 hg3 _ hat
    obtain ⟨hb, hs, b2, hr, hx⟩ := HALL.out
    have hbx := HZ.out
    obtain ⟨ob, hob⟩ : ∃ ob, ob = (Value.slice Ar pre.length cr).ownBlock := ⟨_, rfl⟩
    have hrow : ∀ k, ob = some k → w2.heap.size ≤ k ∧ ∃ cs, Blk W k 22 cs := fun k e => by
      rcases hr.2 with ⟨e2, _⟩ | ⟨g, cap, cur, e2, hg, hh, _⟩
      · rw [hob, e2] at e; cases e
      · rw [hob, e2] at e
        injection e with e
        subst e
        exact ⟨hg, cur, hh⟩
    rw [← hob] at hg3 hat
    have k1 : Keep (fun i => ob = some i) W w3 := (Keep.of_below (al_one W _)).trans (Keep.of_grown hg3 (fun k e => e)) (fun _ h => h) (fun _ _ h => h)
    have hnr : ¬ ob = some w.heap.size := fun e => by have := (hrow _ e).1; omega
    have b2' := b2.kept k1 hnr
    have p1 : w3.cell? ⟨w.heap.size, 0, none⟩ = some (.slice Ar pre.length cr) := by rw [b2'.cell]; rfl
    have g1 := b2'.frozen 0
    obtain ⟨A', c', hv'⟩ := row_shape ho3
    subst hv'
    have k2 : Keep (fun i => i = w.heap.size ∨ ob = some i) W (w3.setCell ⟨w.heap.size, 0, none⟩ (.slice A' (pre.length + 1) c')) :=
      (k1.mono (fun i h => .inr h)).trans (Keep.setCell w3 _ _ (.inl rfl)) (fun _ h => h) (fun _ _ h => h)
    have b2'' := b2'.set_ 0 (.slice A' (pre.length + 1) c')
    obtain ⟨W4, hW4⟩ : ∃ W4, W4 = w3.setCell ⟨w.heap.size, 0, none⟩ (.slice A' (pre.length + 1) c') := ⟨_, rfl⟩
    rw [← hW4] at k2 b2''
    have hoth : ∀ k cs, Blk W k 5 cs → Blk W4 k 5 cs := fun k cs hk => hk.kept k2 (fun e => by
      rcases e with rfl | e
      · have e := hk.symm.trans b2
        injection e with e
        injection e with _ e
        revert e; decide
      · obtain ⟨cs', hk'⟩ := (hrow _ e).2
        have e := hk.symm.trans hk'
        injection e with e
        injection e with _ e
        revert e; decide)
    have ho4 : W4.ownsRow w2.heap.size 22 1 (.slice A' (pre.length + 1) c') (pre.length + 1) ((pre ++ [((.slice Ax nx cx : Value), xl)]).map (·.1)) := by
      rw [List.map_append]
      refine ⟨ho3.1, ?_⟩
      rcases ho3.2 with h | ⟨g, cap, cur, e1, e2, e3, e4⟩
      · exact .inl h
      · refine .inr ⟨g, cap, cur, e1, e2, ?_, e4⟩
        rw [hW4, Below.heap_setCell _ _ _ g (by show g ≠ w.heap.size; omega)]
        exact e3
    have hfin : KeepsFrom w2.heap.size W W4 ∧ KpR w2.heap.size w1.heap.size T W W4 ∧ GaI w w2.heap.size (pre ++ [((.slice Ax nx cx : Value), xl)]) W4 := by
      refine ⟨⟨k2.size, fun i o hi' ho hc => ?_⟩, KpR.of_keep k2 (by omega) (fun k hk => by have := HL.out.2.2 k hk; omega) (fun k e => ?_), Keep.below hb k2 hb.size (fun i e => ?_), Nat.le_trans hs k2.size, _, b2'', by rw [List.length_append, List.length_singleton]; exact ho4, fun y hy => ?_⟩
      · exact (k2.block i (Array.getElem?_eq_some_iff.1 ho).1 (fun e => by
          rcases e with rfl | e
          · omega
          · obtain ⟨cs', hk'⟩ := (hrow _ e).2
            rw [hk'] at ho
            injection ho with ho
            rw [← ho] at hc
            cases hc)).trans ho
      · rcases e with e | e
        · refine ⟨by omega, fun hk => by have := HL.out.2.2 k hk; omega, fun _ cs hcs => ?_⟩
          subst e
          have e := hcs.symm.trans b2
          injection e with e
          injection e with _ e
          revert e; decide
        · have h5 := (hrow _ e).1
          exact ⟨by omega, fun hk => by have := HL.out.2.2 k hk; omega, fun h => by omega⟩
      · rcases e with rfl | e
        · exact Nat.le_refl _
        · have := (hrow _ e).1; omega
      · rcases List.mem_append.1 hy with hy | hy
        · exact row_kept (hx y hy) hoth
        · obtain rfl := List.mem_singleton.1 hy
          exact row_kept HX.out hoth
    have HFIN := Lib.hid hfin
    have HW4 := Lib.hid hW4
    clear hfin ho4 hoth b2'' k2 b2' k1 hrow hob hat hg3 ho3 hb hs b2 hr hx hW4 hbx
    gi_wp2
    rw [← HW4.out]
    exact HFIN.out
  case done =>
    rintro D xs W hD' hxs hI hKd
    obtain ⟨hb, hs, vr, b2, hr, hx⟩ := hI
    obtain ⟨Ar, cr, hvr⟩ := row_shape hr
    subst hvr
    have q1 : W.cell? ⟨w.heap.size, 0, none⟩ = some (.slice Ar xs.length cr) := by rw [b2.cell]; rfl
    have hbe := hb.grown (grownBy_putObj' W D (.deferred none)) hb.size (fun k e => by injection e with e; have := HZ.out; omega)
    have hne : ∀ k cs t, Blk W k t cs → Blk (W.putObj D (.deferred none)) k t cs := fun k cs t hk => blk_putw hKd rfl k t cs hk
    have hsl : Sls (W.putObj D (.deferred none)) (.slice Ar xs.length cr) ls := by
      have h2 := row_kept hr (fun k cs hk => hne k cs _ hk)
      have hll : xs.length = ls.length := by rw [← hxs, List.length_map]
      refine sls_own (base := w2.heap.size) (xs := xs.map (·.1)) (by rw [List.length_map]; exact h2) (by rw [List.length_map]; exact hll) (fun j h1 h3 => ?_)
      rw [List.length_map] at h1
      have h4 := row_kept (hx xs[j] (List.getElem_mem h1)) (fun k cs hk => hne k cs _ hk)
      have e : ls[j] = xs[j].2 := by subst hxs; rw [List.getElem_map]
      rw [List.getElem_map, e]
      exact Own.sl h4
    have HE := Lib.hid (And.intro hsl hbe)
    have HK := Lib.hid hKd
    clear hb hs b2 hr hx hKd hbe hne hxs hsl
    gi_wp2
    refine ⟨by simp, .inl ⟨_, _, rfl, run_takeDeferred HK.out, ?_⟩⟩
    exact ⟨_, results_tmp rfl _ _ _, ⟨.slice Ar xs.length cr, rfl, HE.out⟩⟩
/-- begins: the second list is the first one's beginning. -/
theorem begins_any (v u : Value) (ls ms : List (List UInt8)) (w : World) (hv : Sls w v ls) (hu : Sls w u ms) (hl : ls.length ≤ 1000000) :
    Calls Tryz.prog 26 #[v, u] w fun e w' => e = .returned (.bool (decide (ms <+: ls))) ∧ Below w.heap.size w w' := by
  obtain ⟨A, c, rfl, hc, ha⟩ := id hv
  obtain ⟨A', c', rfl, hc', ha'⟩ := id hu
  have HU := Lib.hid hu
  have HA := Lib.hid (And.intro hc ha)
  clear hv hu ha ha' hc'
  by_cases hlt : ls.length < ms.length
  · have hli : (ls.length : Int) < (ms.length : Int) := by omega
    have HE := Lib.hid (show decide (ms <+: ls) = false from decide_eq_false (fun h => by have := h.length_le; omega))
    clear hlt
    go_enter Tryz.func26, Tryz.ntmps26
    go_wp2
    go_ret
    exact ⟨by rw [HE.out]; rfl, Below.refl _ _⟩
  · have hli : ¬ (ls.length : Int) < (ms.length : Int) := by omega
    have htl : (ls.take ms.length).length = ms.length := by rw [List.length_take]; omega
    have hsl : Sls w (.slice A ms.length c) (ls.take ms.length) := by
      refine ⟨A, c, by rw [htl], by have := HA.out.1; rw [htl]; omega, fun h0 => ?_⟩
      rw [htl] at h0
      obtain ⟨b, o, e, hx⟩ := HA.out.2 (by omega)
      refine ⟨b, o, e, fun j hj => ?_⟩
      rw [htl] at hj
      obtain ⟨x, h1, h2⟩ := hx j (by omega)
      exact ⟨x, h1, by rw [List.getElem_take]; exact h2⟩
    have HE := Lib.hid (show decide (ls.take ms.length = ms) = decide (ms <+: ls) by
      by_cases h : ls.take ms.length = ms
      · rw [decide_eq_true h, decide_eq_true (by rw [← h]; exact List.take_prefix _ _)]
      · rw [decide_eq_false h, decide_eq_false (fun h2 => h (List.prefix_iff_eq_take.1 h2).symm)])
    have HSM := Lib.hid (sameLists_any _ _ _ _ w hsl HU.out (by rw [htl]; omega))
    have hcm : ms.length ≤ c := by have := HA.out.1; omega
    have hcmi : (ms.length : Int) ≤ (c : Int) := by omega
    have hm0 : (0 : Int) ≤ (ms.length : Int) := by omega
    clear hlt hsl
    go_enter Tryz.func26, Tryz.ntmps26
    go_wp2_with fail
    refine HSM.out.mono ?_
    rintro e w1 ⟨rfl, hb⟩
    rw [HE.out]
    go_wp2
    go_ret
    exact ⟨rfl, hb⟩
end Go.Proofs.YtibifnknkphanaaGreatDoor

/-
  WalBack's memory: the log, its disk, and the law's two lists beside.
-/
namespace Go.Proofs.YtibifnknkphanaaGreatDoor
open Go.RowKit Go.Maps Go.Shelf
open DskM WalM
set_option linter.unusedVariables false
set_option linter.unusedSimpArgs false
set_option maxRecDepth 100000

theorem row_keepB {w w' : World} {base : Nat} {e : TypeId} {size : Nat} {v : Value} {n : Nat} {xs : List Value} (h : w.ownsRow base e size v n xs) (hk : ∀ k, v.ownBlock = some k → w'.heap[k]? = w.heap[k]?) : w'.ownsRow base e size v n xs := by
  refine ⟨h.1, ?_⟩
  rcases h.2 with h2 | ⟨g, cap, cur, hv, hg, hh, r⟩
  · exact .inl h2
  · refine .inr ⟨g, cap, cur, hv, hg, ?_, r⟩
    rw [hk g (by rw [hv]; rfl)]
    exact hh
/-- A list of the call's own, that is none of the log's; what it has are bytes that were there from the beginning. -/
def Rw (D T : Nat → Prop) (w W : World) (v : Value) (ls : List (List UInt8)) : Prop :=
  ∃ xs : List Value, xs.length = ls.length ∧ W.ownsRow w.heap.size 22 1 v xs.length xs ∧ (∀ j (h1 : j < xs.length) (h2 : j < ls.length), Sl w xs[j] ls[j]) ∧ ∀ k, v.ownBlock = some k → ¬ D k ∧ ¬ T k
section
variable {D T D' T' : Nat → Prop} {w W W' : World} {v : Value} {ls : List (List UInt8)}
theorem Rw.nil (D T : Nat → Prop) (w W : World) : Rw D T w W (.slice none 0 0) [] := ⟨[], rfl, World.ownsRow_nil _ _ _ _, (fun j h => by cases h), (fun k e => by cases e)⟩
theorem Rw.blk (h : Rw D T w W v ls) : ∀ k, v.ownBlock = some k → w.heap.size ≤ k ∧ k < W.heap.size ∧ ∃ cs, Blk W k 22 cs := by
  obtain ⟨xs, _, h1, _⟩ := h
  intro k e
  refine ⟨(h1.lt k e).1, (h1.lt k e).2, ?_⟩
  rcases h1.2 with ⟨e2, _⟩ | ⟨g, cap, cur, e2, hg, hh, _⟩
  · rw [e2] at e; cases e
  · rw [e2] at e
    injection e with e
    subst e
    exact ⟨cur, hh⟩
theorem Rw.kept {U : Nat → Prop} (h : Rw D T w W v ls) (k : Keep U W W') (hU : ∀ k, v.ownBlock = some k → ¬ U k) (hD : ∀ j, D' j → D j ∨ W.heap.size ≤ j) (hT : ∀ j, T' j → T j ∨ W.heap.size ≤ j) : Rw D' T' w W' v ls := by
  obtain ⟨xs, h0, h1, h2, h3⟩ := h
  refine ⟨xs, h0, row_keepB h1 (fun i hi => k.block i (h1.lt i hi).2 (hU i hi)), h2, fun i e => ⟨fun hd => ?_, fun ht => ?_⟩⟩
  · rcases hD i hd with e2 | e2
    · exact (h3 i e).1 e2
    · have := (h1.lt i e).2; omega
  · rcases hT i ht with e2 | e2
    · exact (h3 i e).2 e2
    · have := (h1.lt i e).2; omega
theorem Rw.sls (h : Rw D T w W v ls) (hb : Below w.heap.size w W) : Sls W v ls := by
  obtain ⟨xs, h0, h1, h2, _⟩ := h
  exact sls_own h1 h0 (fun j a b => (h2 j a b).below hb)
theorem Rw.shape (h : Rw D T w W v ls) : ∃ A c, v = .slice A ls.length c := by
  obtain ⟨xs, h0, h1, _⟩ := h
  rw [← h0]
  exact row_shape h1
end
/-- All of it. -/
structure Mm (D T : Nat → Prop) (w W : World) (g p : Nat) (S : Ds) (F : List Fp) (Lo : Lg) (va vs : Value) (all sure : List (List UInt8)) : Prop where
  lw : LW D T W g p nmW 100 S F Lo
  hD : ∀ j, D j → w.heap.size ≤ j
  hT : ∀ j, T j → w.heap.size ≤ j
  all : Rw D T w W va all
  sure : Rw D T w W vs sure
  apart : ∀ k, va.ownBlock = some k → vs.ownBlock ≠ some k
  below : Below w.heap.size w W
section
variable {D T : Nat → Prop} {w W W' : World} {g p : Nat} {S S' : Ds} {F F' : List Fp} {Lo Lo' : Lg} {va vs : Value} {all sure : List (List UInt8)}
theorem Mm.lgs (h : Mm D T w W g p S F Lo va vs all sure) (c : Int) : Lgs w.heap.size W g p nmW 100 (c, S, F, Lo) := ⟨D, T, h.lw, h.hD, h.hT⟩
theorem Mm.call (h : Mm D T w W g p S F Lo va vs all sure) (hl : LT D T W g p nmW 100 S' F' Lo' W') : ∃ D' T', Mm D' T' w W' g p S' F' Lo' va vs all sure := by
  obtain ⟨D1, T1, h1, h2, h3, h4⟩ := hl
  refine ⟨D1, T1, h1, fun j hj => ?_, fun j hj => ?_, h.all.kept h4 (fun k e => ?_) h2 h3, h.sure.kept h4 (fun k e => ?_) h2 h3, h.apart, Keep.below h.below h4 h.below.size (fun i e => e.elim (h.hD i) (h.hT i))⟩
  · rcases h2 j hj with e | e
    · exact h.hD j e
    · have := h.below.size; omega
  · rcases h3 j hj with e | e
    · exact h.hT j e
    · have := h.below.size; omega
  · obtain ⟨xs, _, _, _, h5⟩ := h.all
    exact fun e2 => e2.elim (h5 k e).1 (h5 k e).2
  · obtain ⟨xs, _, _, _, h5⟩ := h.sure
    exact fun e2 => e2.elim (h5 k e).1 (h5 k e).2
/-- Where nothing but lists of the law's own have turned. -/
theorem LW.beside {U : Nat → Prop} (h : LW D T W g p nmW 100 S F Lo) (k : Keep U W W') (hU : ∀ i, U i → ¬ D i ∧ ¬ T i ∧ (i < W.heap.size → ∃ cs, Blk W i 22 cs)) (hfar : Far U) : LW D T W' g p nmW 100 S F Lo := by
  obtain ⟨m, L, e, hd, hf⟩ := h.disk
  refine ⟨h.disk.kept k (fun i hi hu => (hU i hu).1 hi), h.log.kept (fun i cs hx hb => ⟨hx, hb.kept k (fun e => ?_)⟩) (fun i t cs ht hb => ⟨ht, hb.kept k (fun e => (hU i e).2.1 ht)⟩), h.sep, fun j hj => Nat.lt_of_lt_of_le (h.dlt j hj) k.size, fun j hj => Nat.lt_of_lt_of_le (h.tlt j hj) k.size, h.ld.keep k hfar, h.fd, h.ft, h.nb⟩
  obtain ⟨cs', hk'⟩ := (hU i e).2.2 hb.lt
  have e := hb.symm.trans hk'
  injection e with e
  injection e with _ e
  revert e; decide
/-- A record more in the list of all. -/
theorem Mm.app (h : Mm D T w W g p S F Lo va vs all sure) (hfar : Far (fun j => w.heap.size ≤ j)) {bv : Value} {b : List UInt8} (hsl : Sl w bv b) {xs : List Value} (h0 : xs.length = all.length) (h2 : ∀ j (h1 : j < xs.length) (h2 : j < all.length), Sl w xs[j] all[j])
    {W1 : World} (hb1 : Below W.heap.size W W1) {v' : Value} (ho : W'.ownsRow w.heap.size 22 1 v' (xs.length + 1) (xs ++ [bv])) (hg : W1.grownBy W' va.ownBlock) (hat : v'.ownBlock = va.ownBlock ∨ v'.ownBlock = some W1.heap.size) :
    Mm D T w W' g p S F Lo v' vs (all ++ [b]) sure := by
  have hk : Keep (fun i => va.ownBlock = some i) W W' := (Keep.of_below hb1).trans (Keep.of_grown hg (fun k e => e)) (fun _ h => h) (fun _ _ h => h)
  have hrow := h.all.blk
  obtain ⟨_, _, _, _, hout⟩ := h.all
  refine ⟨h.lw.beside hk (fun i e => ⟨(hout i e).1, (hout i e).2, fun _ => (hrow i e).2.2⟩) (fun i e => hfar i (hrow i e).1), h.hD, h.hT, ⟨xs ++ [bv], by simp [h0], by rw [List.length_append, List.length_singleton]; exact ho, fun j a1 a2 => ?_, fun k e => ?_⟩, h.sure.kept hk (fun k e e2 => h.apart k e2 e) (fun _ h => .inl h) (fun _ h => .inl h), fun k e e2 => ?_, Keep.below h.below hk h.below.size (fun i e => (hrow i e).1)⟩
  · by_cases hj : j < xs.length
    · rw [List.getElem_append_left hj, List.getElem_append_left (by omega)]
      exact h2 j hj (by omega)
    · have e1 : j = xs.length := by simp at a1; omega
      subst e1
      rw [List.getElem_append_right (Nat.le_refl _), List.getElem_append_right (by omega)]
      simpa using hsl
  · rcases hat with e2 | e2
    · exact hout k (by rw [← e2]; exact e)
    · rw [e2] at e
      injection e with e
      subst e
      have := hb1.size
      exact ⟨fun hd => by have := h.lw.dlt _ hd; omega, fun ht => by have := h.lw.tlt _ ht; omega⟩
  · rcases hat with e3 | e3
    · exact h.apart k (by rw [← e3]; exact e) e2
    · rw [e3] at e
      injection e with e
      subst e
      have := (h.sure.blk _ e2).2.1
      have := hb1.size
      omega
/-- The list of the sure ones anew. -/
theorem Mm.copy (h : Mm D T w W g p S F Lo va vs all sure) (hfar : Far (fun j => w.heap.size ≤ j)) {xs : List Value} (h0 : xs.length = all.length) (h2 : ∀ j (h1 : j < xs.length) (h2 : j < all.length), Sl w xs[j] all[j])
    {v' : Value} (ho : W'.ownsRow w.heap.size 22 1 v' xs.length xs) (hg : W.grownBy W' none) (hat : v'.ownBlock = none ∨ v'.ownBlock = some W.heap.size) :
    Mm D T w W' g p S F Lo va v' all all := by
  have hk : Keep (fun _ => False) W W' := Keep.of_grown hg (fun k e => by cases e)
  have hb : Below W.heap.size W W' := ⟨hk.os, hk.tape, hk.output, hk.size, fun i hi => hk.block i hi (fun e => e)⟩
  refine ⟨h.lw.below hb, h.hD, h.hT, h.all.kept hk (fun _ _ e => e) (fun _ h => .inl h) (fun _ h => .inl h), ⟨xs, h0, ho, h2, fun k e => ?_⟩, fun k e e2 => ?_, h.below.trans (hb.mono h.below.size)⟩
  · rcases hat with e2 | e2
    · rw [e2] at e; cases e
    · rw [e2] at e
      injection e with e
      subst e
      exact ⟨fun hd => by have := h.lw.dlt _ hd; omega, fun ht => by have := h.lw.tlt _ ht; omega⟩
  · rcases hat with e3 | e3
    · rw [e3] at e2; cases e2
    · rw [e3] at e2
      injection e2 with e2
      subst e2
      have := (h.all.blk _ e).2.1
      omega
theorem Mm.drop (h : Mm D T w W g p S F Lo va vs all sure) : Mm D T w W g p S F Lo (.slice none 0 0) (.slice none 0 0) [] [] :=
  ⟨h.lw, h.hD, h.hT, Rw.nil _ _ _ _, Rw.nil _ _ _ _, (fun k e => by cases e), h.below⟩
theorem Mm.surenil (h : Mm D T w W g p S F Lo (.slice none 0 0) vs all sure) : Mm D T w W g p S F Lo (.slice none 0 0) (.slice none 0 0) all all := by
  obtain ⟨xs, h0, h1, h2, h3⟩ := id h.all
  exact ⟨h.lw, h.hD, h.hT, h.all, h.all, (fun k e => by cases e), h.below⟩
theorem Mm.later (h : Mm D T w W g p S F Lo va vs all sure) (hb : Below W.heap.size W W') : Mm D T w W' g p S F Lo va vs all sure :=
  ⟨h.lw.below hb, h.hD, h.hT, h.all.kept (Keep.of_below (S := fun _ => False) hb) (fun _ _ e => e) (fun _ h => .inl h) (fun _ h => .inl h), h.sure.kept (Keep.of_below (S := fun _ => False) hb) (fun _ _ e => e) (fun _ h => .inl h) (fun _ h => .inl h), h.apart, h.below.trans (hb.mono h.below.size)⟩
theorem Mm.isDead (h : Mm D T w W g p S F Lo va vs all sure) : Calls Tryz.prog 19 #[.pointer (some ⟨p, 0, none⟩)] W fun e w' => e = .returned (.bool S.dead) ∧ w' = W := by
  obtain ⟨m, L, e, hd, hf⟩ := h.lw.disk
  exact dead_any hd
end
section
variable {B : Nat} {W : World} {g p : Nat} {s : ByteArray} {most : Int} {r : Out}
theorem kn_gather (h : Lgs B W g p s most r) (hl : r.2.2.2.recs.length ≤ 2000001) (hll : ∀ l ∈ r.2.2.2.recs, l.length ≤ 1000000000) :
    Calls Tryz.prog 24 #[.pointer (some ⟨g, 0, none⟩)] W fun e W' => ∃ v, e = .returned v ∧ Sls W' v r.2.2.2.recs ∧ Below W.heap.size W W' := by
  obtain ⟨D, T, h1, h2, h3⟩ := h
  exact gather_any T _ _ W _ h1.log.recsOk h1.tlt hl hll
theorem kn_fuse (h : Lgs B W g p s most r) (hB : B ≤ W.heap.size) (n : Int) (h1 : -9223372036854775808 ≤ n) (h2 : n ≤ 9223372036854775807) :
    Calls Tryz.prog 18 #[.pointer (some ⟨p, 0, none⟩), .int .i64 n] W fun e W' => e = .returned (.tuple #[]) ∧ Lgs B W' g p s most (0, fuseS r.2.1 n, r.2.2.1, r.2.2.2) ∧ Below B W W' := by
  obtain ⟨D, T, hl, hD, hT⟩ := h
  obtain ⟨m, L, e, hd, hf⟩ := hl.disk
  have hpD : D p := hf p (.inl rfl)
  refine (fuse_any hd n h1 h2).mono ?_
  rintro e' W' ⟨rfl, hd', hk, hz⟩
  exact ⟨rfl, ⟨D, T, ⟨⟨m, L, e, hd', hf⟩, hl.log.kept (fun k cs hx hb => ⟨hx, hb.kept hk (fun e => hx.1 (e ▸ hpD))⟩) (fun k t cs ht hb => ⟨ht, hb.kept hk (fun e => hl.sep p hpD (e ▸ ht))⟩), hl.sep, fun j hj => by rw [hz]; exact hl.dlt j hj, fun j hj => by rw [hz]; exact hl.tlt j hj, hl.ld.keep hk (fun i e => by subst e; exact hl.fd i hpD), hl.fd, hl.ft, hl.nb⟩, hD, hT⟩, Keep.below (Below.refl B W) hk hB (fun i e => by subst e; exact hD i hpD)⟩
theorem Lgs.mm {w : World} {S : Ds} {F : List Fp} {Lo : Lg} {c : Int} (h : Lgs w.heap.size W g p nmW 100 (c, S, F, Lo)) (hb : Below w.heap.size w W) : ∃ D T, Mm D T w W g p S F Lo (.slice none 0 0) (.slice none 0 0) [] [] := by
  obtain ⟨D, T, h1, h2, h3⟩ := h
  exact ⟨D, T, h1, h2, h3, Rw.nil _ _ _ _, Rw.nil _ _ _ _, (fun k e => by cases e), hb⟩
end
/-- How much the first steps may write. -/
def cumF (bs : List (List UInt8)) (i : Nat) : Nat := 8 * i + ((bs.take i).map List.length).sum
theorem cumF_succ (bs : List (List UInt8)) (i : Nat) (h : i < bs.length) : cumF bs (i + 1) = cumF bs i + (8 + bs[i].length) := by
  unfold cumF
  rw [List.take_succ_eq_append_getElem h, List.map_append, List.sum_append]
  simp
  omega
theorem cumF_le (bs : List (List UInt8)) (i : Nat) : cumF bs i ≤ 8 * i + (bs.map List.length).sum := by
  have := sum_take_le bs i
  unfold cumF
  omega
end Go.Proofs.YtibifnknkphanaaGreatDoor

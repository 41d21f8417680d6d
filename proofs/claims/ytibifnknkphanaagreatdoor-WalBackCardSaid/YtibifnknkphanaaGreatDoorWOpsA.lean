/-
  Records one behind the other, plainly: what stands whole in any first part of them.
-/
import Derived.Test.YtibifnknkphanaaGreatDoorWSplitA
import Derived.Test.YtibifnknkphanaaGreatDoorWKnA
namespace Go.Proofs.YtibifnknkphanaaGreatDoor
open DskM
set_option linter.unusedVariables false
set_option linter.unusedSimpArgs false

/-- Records one behind the other. -/
def flat (ls : List (List UInt8)) : List UInt8 := (ls.map recP).flatten
theorem flat_cons (b : List UInt8) (r : List (List UInt8)) : flat (b :: r) = recP b ++ flat r := rfl
theorem flat_append (a b : List (List UInt8)) : flat (a ++ b) = flat a ++ flat b := by unfold flat; rw [List.map_append, List.flatten_append]
theorem flat_one (b : List UInt8) : flat [b] = recP b := by rw [flat_cons]; exact List.append_nil _
theorem recP_drop (b : List UInt8) : (recP b).drop 8 = b := by
  unfold recP
  rw [show (8 : Nat) = 4 + 4 from rfl, ← List.drop_drop, List.drop_left' (beB_length 4 _), List.drop_left' (beB_length 4 _)]
theorem recP_take4 (b : List UInt8) : (recP b).take 4 = beB 4 b.length := by
  unfold recP; exact List.take_left' (beB_length 4 _)
theorem recP_sum (b : List UInt8) : ((recP b).drop 4).take 4 = beB 4 (crcN (beB 4 b.length ++ b)) := by
  unfold recP; rw [List.drop_left' (beB_length 4 _)]; exact List.take_left' (beB_length 4 _)
/-- How many of the records stand whole in the first n bytes. -/
def cutK : Nat → List (List UInt8) → List (List UInt8)
  | _, [] => []
  | n, b :: r => if 8 + b.length ≤ n then b :: cutK (n - (8 + b.length)) r else []
def endsP (o : Nat) : List (List UInt8) → List (List UInt8 × Nat)
  | [] => []
  | b :: r => (b, o + (8 + b.length)) :: endsP (o + (8 + b.length)) r
theorem endsP_fst (o : Nat) : ∀ ls : List (List UInt8), (endsP o ls).map (·.1) = ls
  | [] => rfl
  | b :: r => by rw [endsP, List.map_cons, endsP_fst]
theorem endsP_last (o : Nat) : ∀ (ls : List (List UInt8)), ((endsP o ls).getLast?.map (·.2)).getD o = o + (flat ls).length
  | [] => by simp [endsP, flat]
  | b :: r => by
    have ih := endsP_last (o + (8 + b.length)) r
    rw [flat_cons, List.length_append, recP_length]
    cases r with
    | nil => simp [endsP, flat]; omega
    | cons c r' =>
      rw [endsP, endsP, List.getLast?_cons_cons]
      rw [endsP] at ih
      rw [show ((((c, o + (8 + b.length) + (8 + c.length)) :: endsP (o + (8 + b.length) + (8 + c.length)) r').getLast?.map (·.2)).getD o) = ((((c, o + (8 + b.length) + (8 + c.length)) :: endsP (o + (8 + b.length) + (8 + c.length)) r').getLast?.map (·.2)).getD (o + (8 + b.length))) from by
        cases h : ((c, o + (8 + b.length) + (8 + c.length)) :: endsP (o + (8 + b.length) + (8 + c.length)) r').getLast? with
        | none => simp at h
        | some x => rfl, ih]
      omega
theorem okAt_rec (b : List UInt8) (rest : List UInt8) (hb : b.length ≤ 1048576) : okAt (recP b ++ rest) = true ∧ beN ((recP b ++ rest).take 4) = b.length ∧ ((recP b ++ rest).drop 8).take b.length = b ∧ (recP b ++ rest).drop (8 + b.length) = rest := by
  have hl := recP_length b
  have h4 : (recP b ++ rest).take 4 = beB 4 b.length := by rw [List.take_append_of_le_length (by omega), recP_take4]
  have hn : beN ((recP b ++ rest).take 4) = b.length := by rw [h4]; exact beN_beB 4 _ (by omega)
  have hd : ((recP b ++ rest).drop 8).take b.length = b := by
    rw [List.drop_append_of_le_length (by omega), recP_drop]
    exact List.take_left' rfl
  have hs : ((recP b ++ rest).drop 4).take 4 = beB 4 (crcN (beB 4 b.length ++ b)) := by
    rw [List.drop_append_of_le_length (by omega), List.take_append_of_le_length (by rw [List.length_drop]; omega), recP_sum]
  have hr : (recP b ++ rest).drop (8 + b.length) = rest := List.drop_left' (by omega)
  refine ⟨?_, hn, hd, hr⟩
  unfold okAt
  rw [hn, hd, hs, h4, beN_beB 4 _ (by unfold crcN; omega)]
  simp [hl]
  omega
theorem okAt_cut (b : List UInt8) (rest : List UInt8) (hb : b.length ≤ 1048576) (n : Nat) (hn : n < 8 + b.length) : okAt ((recP b ++ rest).take n) = false := by
  have hl := recP_length b
  have hz : ((recP b ++ rest).take n).length ≤ n := by rw [List.length_take]; omega
  by_cases h8 : 8 ≤ n
  · have h4 : ((recP b ++ rest).take n).take 4 = beB 4 b.length := by rw [List.take_take, Nat.min_eq_left (by omega), List.take_append_of_le_length (by omega), recP_take4]
    unfold okAt
    rw [h4, beN_beB 4 _ (by omega), decide_eq_false (p := 8 + b.length ≤ _) (by omega)]
    simp
  · unfold okAt
    rw [decide_eq_false (p := 8 ≤ _) (by omega)]
    rfl
theorem whole_cut : ∀ (ls : List (List UInt8)) (n f o : Nat), (∀ b ∈ ls, b.length ≤ 1048576) → min n (flat ls).length ≤ f → wholeF f ((flat ls).take n) o = endsP o (cutK n ls)
  | [], n, f, o, _, _ => by
    have e : (flat []).take n = [] := by unfold flat; simp
    rw [e]
    cases f with
    | zero => rfl
    | succ f => rw [wholeF]; rfl
  | b :: r, n, f, o, hb, hf => by
    have hbl := hb b (List.mem_cons_self ..)
    have hl := recP_length b
    rw [flat_cons] at hf ⊢
    by_cases hn : 8 + b.length ≤ n
    · rw [cutK, if_pos hn, endsP]
      have ht : (recP b ++ flat r).take n = recP b ++ (flat r).take (n - (8 + b.length)) := by
        rw [List.take_append, List.take_of_length_le (by omega), hl]
        congr 2
        omega
      rw [ht]
      obtain ⟨h1, h2, h3, h4⟩ := okAt_rec b ((flat r).take (n - (8 + b.length))) hbl
      cases f with
      | zero => rw [List.length_append] at hf; omega
      | succ f =>
        rw [wholeF, if_pos h1, h2, h3, h4, whole_cut r _ f _ (fun x hx => hb x (List.mem_cons_of_mem _ hx)) (by rw [List.length_append, hl] at hf; omega)]
    · rw [cutK, if_neg hn, endsP]
      cases f with
      | zero => rfl
      | succ f => rw [wholeF, okAt_cut b _ hbl n (by omega)]; rfl
theorem cutK_all : ∀ (ls : List (List UInt8)) (n : Nat), (flat ls).length ≤ n → cutK n ls = ls
  | [], n, _ => rfl
  | b :: r, n, h => by
    rw [flat_cons, List.length_append, recP_length] at h
    rw [cutK, if_pos (by omega), cutK_all r _ (by omega)]
theorem whole_flat (ls : List (List UInt8)) (h : ∀ b ∈ ls, b.length ≤ 1048576) : wholeP (flat ls) = endsP 0 ls := by
  have h1 := whole_cut ls (flat ls).length (flat ls).length 0 h (by omega)
  rw [List.take_length, cutK_all ls _ (Nat.le_refl _)] at h1
  exact h1
theorem whole_take (ls : List (List UInt8)) (n : Nat) (h : ∀ b ∈ ls, b.length ≤ 1048576) : wholeP ((flat ls).take n) = endsP 0 (cutK n ls) :=
  whole_cut ls n _ 0 h (by rw [List.length_take]; exact Nat.le_refl _)
/-- What stands whole is a beginning. -/
theorem cutK_take : ∀ (ls : List (List UInt8)) (n : Nat), ∃ k, k ≤ ls.length ∧ cutK n ls = ls.take k
  | [], n => ⟨0, Nat.le_refl _, rfl⟩
  | b :: r, n => by
    by_cases hn : 8 + b.length ≤ n
    · obtain ⟨k, hk, e⟩ := cutK_take r (n - (8 + b.length))
      exact ⟨k + 1, by simp; omega, by rw [cutK, if_pos hn, e]; rfl⟩
    · exact ⟨0, Nat.zero_le _, by rw [cutK, if_neg hn]; rfl⟩
/-- .. and has all that is whole within. -/
theorem cutK_keeps : ∀ (a b : List (List UInt8)) (n : Nat), (flat a).length ≤ n → cutK n (a ++ b) = a ++ cutK (n - (flat a).length) b
  | [], b, n, _ => by
    have e : (flat ([] : List (List UInt8))).length = 0 := rfl
    rw [e]; rfl
  | x :: a, b, n, h => by
    rw [flat_cons, List.length_append, recP_length] at h ⊢
    rw [List.cons_append, cutK, if_pos (by omega), cutK_keeps a b _ (by omega), List.cons_append]
    congr 3
    omega
theorem cutK_len : ∀ (ls : List (List UInt8)) (n : Nat), (flat (cutK n ls)).length ≤ n
  | [], n => Nat.zero_le _
  | b :: r, n => by
    by_cases hn : 8 + b.length ≤ n
    · have := cutK_len r (n - (8 + b.length))
      rw [cutK, if_pos hn, flat_cons, List.length_append, recP_length]; omega
    · rw [cutK, if_neg hn]; exact Nat.zero_le _
theorem cutK_flat (ls : List (List UInt8)) (n : Nat) : (flat ls).take (flat (cutK n ls)).length = flat (cutK n ls) := by
  obtain ⟨k, _, e⟩ := cutK_take ls n
  rw [e]
  conv => lhs; rw [← List.take_append_drop k ls, flat_append]
  rw [List.take_append_drop]
  exact List.take_left' rfl
end Go.Proofs.YtibifnknkphanaaGreatDoor

/-
  What each call comes to for a log whose segment alone stands on the disk, plainly.
-/
namespace Go.Proofs.YtibifnknkphanaaGreatDoor
open Go.RowKit
open DskM WalM
set_option linter.unusedVariables false
set_option linter.unusedSimpArgs false

theorem wrP_is (f : Ds → List Fp → Int × Ds × List Fp) {S S' : Ds} {F F' : List Fp} {L : Lg} {c : Int} (h : f S F = (c, S', F')) : wrP f S F L = (c, S', F', L) := by unfold wrP; rw [h]
theorem run_ok {f : PStep} {r : List PStep} {S S' : Ds} {F F' : List Fp} {L L' : Lg} (h : f S F L = (0, S', F', L')) : runP (f :: r) S F L = runP r S' F' L' := by rw [runP, h, if_pos rfl]
theorem run_no {f : PStep} {r : List PStep} {S S' : Ds} {F F' : List Fp} {L L' : Lg} {c : Int} (h : f S F L = (c, S', F', L')) (hc : c ≠ 0) : runP (f :: r) S F L = (c, S', F', { L' with dead := decide (c = 8) }) := by rw [runP, h, if_neg hc]
theorem may_seg {nm : List UInt8} (hm : mayB nm = true) (hl : nm.length ≤ 16) {k : Nat} (hk : k ≤ 2147483647) : mayB (seg nm k) = true := by
  obtain ⟨h1, h2, h3⟩ := mayB_iff.1 hm
  refine mayB_iff.2 ⟨?_, ?_, fun c hc => ?_⟩
  · unfold seg; rw [List.length_append]; omega
  · have := seg_len nm k hk; omega
  · unfold seg at hc
    rcases List.mem_append.1 hc with hc | hc
    · exact h3 c hc
    · rcases List.mem_cons.1 hc with rfl | hc
      · decide
      · have := dec_bytes k c hc
        unfold okC
        rw [decide_eq_true_iff]
        omega
/-- The one segment's file, and the log, plainly. -/
def gF (nm : ByteArray) (k : Nat) (sn : List UInt8) (rs : List (List UInt8)) (la : Nat) : List Fp := [(seg nm.data.toList k, flat (sn :: rs), la)]
def gL (k : Nat) (sn : List UInt8) (rs : List (List UInt8)) (y : Nat) : Lg := { num := k, snap := sn, recs := rs, size := ((flat (sn :: rs)).length : Int), synced := y, dead := false }
/-- A name that may be a log's. -/
structure Nm1 (nm : ByteArray) : Prop where
  may : mayB nm.data.toList = true
  len : nm.data.toList.length ≤ 16
section
variable {nm : ByteArray} {k la y : Nat} {sn b : List UInt8} {rs : List (List UInt8)} {S : Ds}
theorem find_one (n : Nm) (x : List UInt8 × Nat) : findP [(n, x)] n = some (n, x) := by simp [findP]
theorem set_one (n : Nm) (x y : List UInt8 × Nat) : setP [(n, x)] (n, y) = [(n, y)] := by simp [setP]
theorem flat_snoc (sn b : List UInt8) (rs : List (List UInt8)) : flat (sn :: rs) ++ recP b = flat (sn :: (rs ++ [b])) := by
  rw [← List.cons_append, flat_append, flat_one]
theorem flat_len_snoc (sn b : List UInt8) (rs : List (List UInt8)) : (flat (sn :: (rs ++ [b]))).length = (flat (sn :: rs)).length + (8 + b.length) := by
  rw [← flat_snoc, List.length_append, recP_length]; omega
theorem total_one (n : Nm) (l : List UInt8) (la : Nat) : totalP [(n, l, la)] = l.length := by simp [totalP]
theorem gw_ok {d t F : List Fp} (hd : S.dead = false) (hf : S.fuse ≠ 0) : writeS S d t F = (0, S.step, d) := by
  unfold writeS
  rw [if_neg (by rw [hd]; simp), if_neg hf]
theorem gw_torn {d t F : List Fp} (hd : S.dead = false) (hf : S.fuse = 0) : writeS S d t F = (8, S.gone, t) := by
  unfold writeS
  rw [if_neg (by rw [hd]; simp), if_pos hf]
theorem gadd : addP (gF nm k sn rs la) (seg nm.data.toList k) (recP b) = gF nm k sn (rs ++ [b]) la := by
  unfold addP gF
  rw [find_one]
  dsimp only
  rw [set_one, flat_snoc]
theorem gappS (hn : Nm1 nm) (hk : k ≤ 2147483647) (hd : S.dead = false) (hfit : (flat (sn :: rs)).length + (8 + b.length) ≤ S.cap) :
    appendS S (gF nm k sn rs la) (seg nm.data.toList k) (recP b) = writeS S (gF nm k sn (rs ++ [b]) la) (gF nm k sn (rs ++ [b]) la) (gF nm k sn rs la) := by
  unfold appendS
  rw [if_pos (may_seg hn.may hn.len hk), if_neg, gadd]
  rintro (e | e)
  · unfold gF at e
    rw [total_one, recP_length] at e
    omega
  · unfold gF at e
    rw [find_one] at e
    cases e.1
theorem gappS_full (hn : Nm1 nm) (hk : k ≤ 2147483647) (hfit : ¬ (flat (sn :: rs)).length + (8 + b.length) ≤ S.cap) :
    appendS S (gF nm k sn rs la) (seg nm.data.toList k) (recP b) = (5, S, gF nm k sn rs la) := by
  unfold appendS
  rw [if_pos (may_seg hn.may hn.len hk), if_pos (.inl (by unfold gF; rw [total_one, recP_length]; omega))]
theorem gput (hz : (flat (sn :: (rs ++ [b]))).length ≤ 1000000000) (F : List Fp) : putP (recP b) S F (gL k sn rs y) = (0, S, F, gL k sn (rs ++ [b]) y) := by
  unfold putP gL
  have h1 := flat_len_snoc sn b rs
  rw [recP_drop]
  have h2 : wrap64 (((flat (sn :: rs)).length : Int) + ((recP b).length : Int)) = ((flat (sn :: (rs ++ [b]))).length : Int) := by
    rw [recP_length]
    unfold wrap64
    omega
  rw [h2]
theorem gappend (hn : Nm1 nm) (hk : k ≤ 2147483647) (hd : S.dead = false) (hf : S.fuse ≠ 0) (hb : b.length ≤ 1048576) (hc : S.cap ≤ 16777216) (hfit : (flat (sn :: rs)).length + (8 + b.length) ≤ S.cap) :
    appendL nm S (gF nm k sn rs la) (gL k sn rs y) b = (0, S.step, gF nm k sn (rs ++ [b]) la, gL k sn (rs ++ [b]) y) := by
  have h1 : appendNowP nm (recP b) S (gF nm k sn rs la) (gL k sn rs y) = (0, S.step, gF nm k sn (rs ++ [b]) la, gL k sn rs y) :=
    wrP_is (fun S F => appendS S F (seg nm.data.toList (gL k sn rs y).num) (recP b)) ((gappS hn hk hd hfit).trans (gw_ok hd hf))
  have h2 := flat_len_snoc sn b rs
  unfold appendL
  rw [if_neg (by omega), if_neg (by show ¬ (false = true); simp), runP, h1, if_pos rfl, runP, gput (by omega), if_pos rfl, runP]
theorem gappend_full (hn : Nm1 nm) (hk : k ≤ 2147483647) (hd : S.dead = false) (hb : b.length ≤ 1048576) (hfit : ¬ (flat (sn :: rs)).length + (8 + b.length) ≤ S.cap) :
    appendL nm S (gF nm k sn rs la) (gL k sn rs y) b = (5, S, gF nm k sn rs la, gL k sn rs y) := by
  have h1 : appendNowP nm (recP b) S (gF nm k sn rs la) (gL k sn rs y) = (5, S, gF nm k sn rs la, gL k sn rs y) :=
    wrP_is (fun S F => appendS S F (seg nm.data.toList (gL k sn rs y).num) (recP b)) (gappS_full hn hk hfit)
  unfold appendL
  rw [if_neg (by omega), if_neg (by show ¬ (false = true); simp), runP, h1, if_neg (by show ¬ ((5 : Int) = 0); decide)]
  rfl
theorem gsyncS (hn : Nm1 nm) (hk : k ≤ 2147483647) : syncS S (gF nm k sn rs la) (seg nm.data.toList k) = writeS S (gF nm k sn rs (flat (sn :: rs)).length) (gF nm k sn rs la) (gF nm k sn rs la) := by
  unfold syncS
  rw [if_pos (may_seg hn.may hn.len hk)]
  unfold gF
  rw [find_one]
  dsimp only
  rw [set_one]
theorem gsync (hn : Nm1 nm) (hk : k ≤ 2147483647) (hd : S.dead = false) (hf : S.fuse ≠ 0) :
    syncL nm S (gF nm k sn rs la) (gL k sn rs y) = (0, S.step, gF nm k sn rs (flat (sn :: rs)).length, gL k sn rs rs.length) := by
  have h1 : syncNowP nm S (gF nm k sn rs la) (gL k sn rs y) = (0, S.step, gF nm k sn rs (flat (sn :: rs)).length, gL k sn rs y) :=
    wrP_is (fun S F => syncS S F (seg nm.data.toList (gL k sn rs y).num)) ((gsyncS hn hk).trans (gw_ok hd hf))
  unfold syncL
  rw [if_neg (by show ¬ (false = true); simp), runP, h1, if_pos rfl, runP]
  rfl
end
end Go.Proofs.YtibifnknkphanaaGreatDoor

/-
  What Turn, a loss of power and an opening come to, plainly.
-/
namespace Go.Proofs.YtibifnknkphanaaGreatDoor
open Go.RowKit
open DskM WalM
set_option linter.unusedVariables false
set_option linter.unusedSimpArgs false

/-- Two segments side by side, as their names rise. -/
def gF2 (nm : ByteArray) (k : Nat) (x1 x2 : List UInt8 × Nat) : List Fp :=
  if bytesBefore (seg nm.data.toList (k + 1)) (seg nm.data.toList k) = true then [(seg nm.data.toList (k + 1), x2), (seg nm.data.toList k, x1)] else [(seg nm.data.toList k, x1), (seg nm.data.toList (k + 1), x2)]
section
variable {nm : ByteArray} {k la y : Nat} {sn b : List UInt8} {rs : List (List UInt8)} {S : Ds} {x1 x2 z : List UInt8 × Nat}
theorem seg_ne (hk : k + 1 ≤ 2147483647) : seg nm.data.toList k ≠ seg nm.data.toList (k + 1) := fun e => by
  have := seg_inj (by omega) hk e
  omega
theorem beq_ne {a b : Nm} (h : a ≠ b) : (a == b) = false := by rw [beq_eq_false_iff_ne]; exact h
theorem g2_new (hk : k + 1 ≤ 2147483647) : findP (gF2 nm k x1 x2) (seg nm.data.toList (k + 1)) = some (seg nm.data.toList (k + 1), x2) := by
  have hne := seg_ne (nm := nm) hk
  unfold gF2 findP
  split
  · simp
  · rw [List.find?_cons, beq_ne hne]; simp
theorem g2_old (hk : k + 1 ≤ 2147483647) : findP (gF2 nm k x1 x2) (seg nm.data.toList k) = some (seg nm.data.toList k, x1) := by
  have hne := seg_ne (nm := nm) hk
  unfold gF2 findP
  split
  · rw [List.find?_cons, beq_ne (Ne.symm hne)]; simp
  · simp
theorem g2_set (hk : k + 1 ≤ 2147483647) : setP (gF2 nm k x1 x2) (seg nm.data.toList (k + 1), z) = gF2 nm k x1 z := by
  have hne := seg_ne (nm := nm) hk
  unfold gF2 setP
  split
  · simp [hne]
  · simp [hne]
theorem g2_setold (hk : k + 1 ≤ 2147483647) : setP (gF2 nm k x1 x2) (seg nm.data.toList k, z) = gF2 nm k z x2 := by
  have hne := seg_ne (nm := nm) hk
  unfold gF2 setP
  split
  · simp [Ne.symm hne]
  · simp [Ne.symm hne]
theorem g2_del (hk : k + 1 ≤ 2147483647) : delP (gF2 nm k x1 x2) (seg nm.data.toList k) = [(seg nm.data.toList (k + 1), x2)] := by
  have hne := seg_ne (nm := nm) hk
  unfold gF2 delP
  split
  · simp [Ne.symm hne]
  · simp [Ne.symm hne]
theorem g2_delnew (hk : k + 1 ≤ 2147483647) : delP (gF2 nm k x1 x2) (seg nm.data.toList (k + 1)) = [(seg nm.data.toList k, x1)] := by
  have hne := seg_ne (nm := nm) hk
  unfold gF2 delP
  split
  · simp [hne]
  · simp [hne]
theorem gnone (hk : k + 1 ≤ 2147483647) : findP (gF nm k sn rs la) (seg nm.data.toList (k + 1)) = none := by
  have hne := seg_ne (nm := nm) hk
  unfold gF findP
  simp [hne]
theorem gadd2 (hk : k + 1 ≤ 2147483647) (rec : List UInt8) : addP (gF nm k sn rs la) (seg nm.data.toList (k + 1)) rec = gF2 nm k (flat (sn :: rs), la) (rec, 0) := by
  unfold addP
  rw [gnone hk]
  dsimp only
  unfold gF gF2 insP insP
  rfl
theorem gapp2 (hn : Nm1 nm) (hk : k + 1 ≤ 2147483647) (hfit : (flat (sn :: rs)).length + (8 + b.length) ≤ S.cap) :
    appendS S (gF nm k sn rs la) (seg nm.data.toList (k + 1)) (recP b) = writeS S (gF2 nm k (flat (sn :: rs), la) (recP b, 0)) (gF2 nm k (flat (sn :: rs), la) (recP b, 0)) (gF nm k sn rs la) := by
  unfold appendS
  rw [if_pos (may_seg hn.may hn.len hk), if_neg, gadd2 hk]
  rintro (e | e)
  · unfold gF at e
    rw [total_one, recP_length] at e
    omega
  · have e := e.2
    unfold gF at e
    simp at e
theorem gapp2_full (hn : Nm1 nm) (hk : k + 1 ≤ 2147483647) (hfit : ¬ (flat (sn :: rs)).length + (8 + b.length) ≤ S.cap) :
    appendS S (gF nm k sn rs la) (seg nm.data.toList (k + 1)) (recP b) = (5, S, gF nm k sn rs la) := by
  unfold appendS
  rw [if_pos (may_seg hn.may hn.len hk), if_pos (.inl (by unfold gF; rw [total_one, recP_length]; omega))]
theorem gsync2 (hn : Nm1 nm) (hk : k + 1 ≤ 2147483647) : syncS S (gF2 nm k x1 x2) (seg nm.data.toList (k + 1)) = writeS S (gF2 nm k x1 (x2.1, x2.1.length)) (gF2 nm k x1 x2) (gF2 nm k x1 x2) := by
  unfold syncS
  rw [if_pos (may_seg hn.may hn.len hk), g2_new hk]
  dsimp only
  rw [g2_set hk]
theorem gsync2old (hn : Nm1 nm) (hk : k + 1 ≤ 2147483647) : syncS S (gF2 nm k x1 x2) (seg nm.data.toList k) = writeS S (gF2 nm k (x1.1, x1.1.length) x2) (gF2 nm k x1 x2) (gF2 nm k x1 x2) := by
  unfold syncS
  rw [if_pos (may_seg hn.may hn.len (by omega)), g2_old hk]
  dsimp only
  rw [g2_setold hk]
theorem grem2 (hn : Nm1 nm) (hk : k + 1 ≤ 2147483647) : removeS S (gF2 nm k x1 x2) (seg nm.data.toList k) = writeS S [(seg nm.data.toList (k + 1), x2)] (gF2 nm k x1 x2) (gF2 nm k x1 x2) := by
  unfold removeS
  rw [if_pos (may_seg hn.may hn.len (by omega)), g2_old hk]
  dsimp only
  rw [g2_del hk]
theorem grem2new (hn : Nm1 nm) (hk : k + 1 ≤ 2147483647) : removeS S (gF2 nm k x1 x2) (seg nm.data.toList (k + 1)) = writeS S [(seg nm.data.toList k, x1)] (gF2 nm k x1 x2) (gF2 nm k x1 x2) := by
  unfold removeS
  rw [if_pos (may_seg hn.may hn.len hk), g2_new hk]
  dsimp only
  rw [g2_delnew hk]
theorem gremnone (hn : Nm1 nm) (hk : k + 1 ≤ 2147483647) (L : Lg) : removeP (seg nm.data.toList (k + 1)) S (gF nm k sn rs la) L = (0, S, gF nm k sn rs la, L) := by
  have h : removeS S (gF nm k sn rs la) (seg nm.data.toList (k + 1)) = (6, S, gF nm k sn rs la) := by
    unfold removeS
    rw [if_pos (may_seg hn.may hn.len hk), gnone hk]
  unfold removeP
  rw [h]
  rfl
theorem gremP {F F' : List Fp} {S' : Ds} {c : Int} (n : Nm) (L : Lg) (h : removeS S F n = (c, S', F')) (hc : c ≠ 6) : removeP n S F L = (c, S', F', L) := by
  unfold removeP
  rw [h]
  dsimp only
  rw [if_neg hc]
theorem gbegin (F : List Fp) (L : Lg) (hL : L.dead = false) : beginP (k + 1) ((recP b).drop 8) S F L = (0, S, F, gL (k + 1) b [] 0) := by
  unfold beginP gL
  rw [recP_drop, hL, flat_one, recP_length]
  rfl
theorem gl_dead : (gL k sn rs y).dead = false := rfl
/-- Turn, where there is room: as far as the power lasts. -/
theorem gturn (hn : Nm1 nm) (hk : k + 1 ≤ 2147483647) (hd : S.dead = false) (hb : b.length ≤ 1048576) (hfit : (flat (sn :: rs)).length + (8 + b.length) ≤ S.cap) :
    turnL nm S (gF nm k sn rs la) (gL k sn rs y) b =
      if S.fuse = 0 then (8, S.gone, gF2 nm k (flat (sn :: rs), la) (recP b, 0), { gL k sn rs y with dead := true })
      else if S.step.fuse = 0 then (8, S.step.gone, gF2 nm k (flat (sn :: rs), la) (recP b, 0), { gL k sn rs y with dead := true })
      else if S.step.step.fuse = 0 then (8, S.step.step.gone, gF2 nm k (flat (sn :: rs), la) (recP b, (recP b).length), { gL (k + 1) b [] 0 with dead := true })
      else (0, S.step.step.step, gF nm (k + 1) b [] (recP b).length, gL (k + 1) b [] 0) := by
  have hsd : S.step.dead = false := hd
  have hssd : S.step.step.dead = false := hd
  have e1 := gapp2 (la := la) hn hk hfit
  have e2 := @gsync2 nm k S.step (flat (sn :: rs), la) (recP b, 0) hn hk
  have e3 := @grem2 nm k S.step.step (flat (sn :: rs), la) (recP b, (recP b).length) hn hk
  unfold turnL
  rw [if_neg (by omega), if_neg (by show ¬ (false = true); simp), if_neg (by show ¬ (k = 2147483647); omega)]
  have t1 : removeP (seg nm.data.toList (k + 1)) S (gF nm k sn rs la) (gL k sn rs y) = (0, S, gF nm k sn rs la, gL k sn rs y) := gremnone hn hk _
  show runP [removeP (seg nm.data.toList (k + 1)), wrP fun S F => appendS S F (segS nm (k + 1)).data.toList (recP b), wrP fun S F => syncS S F (segS nm (k + 1)).data.toList, beginP (k + 1) ((recP b).drop 8), removeP (seg nm.data.toList k)] S (gF nm k sn rs la) (gL k sn rs y) = _
  rw [run_ok t1]
  by_cases h1 : S.fuse = 0
  · have t2 : (wrP fun S F => appendS S F (segS nm (k + 1)).data.toList (recP b)) S (gF nm k sn rs la) (gL k sn rs y) = (8, S.gone, gF2 nm k (flat (sn :: rs), la) (recP b, 0), gL k sn rs y) :=
      wrP_is _ (by rw [segS_list]; exact e1.trans (gw_torn hd h1))
    rw [run_no t2 (by decide), if_pos h1]
    rfl
  have t2 : (wrP fun S F => appendS S F (segS nm (k + 1)).data.toList (recP b)) S (gF nm k sn rs la) (gL k sn rs y) = (0, S.step, gF2 nm k (flat (sn :: rs), la) (recP b, 0), gL k sn rs y) :=
    wrP_is _ (by rw [segS_list]; exact e1.trans (gw_ok hd h1))
  rw [run_ok t2, if_neg h1]
  by_cases h2 : S.step.fuse = 0
  · have t3 : (wrP fun S F => syncS S F (segS nm (k + 1)).data.toList) S.step (gF2 nm k (flat (sn :: rs), la) (recP b, 0)) (gL k sn rs y) = (8, S.step.gone, gF2 nm k (flat (sn :: rs), la) (recP b, 0), gL k sn rs y) :=
      wrP_is _ (by rw [segS_list]; exact e2.trans (gw_torn hsd h2))
    rw [run_no t3 (by decide), if_pos h2]
    rfl
  have t3 : (wrP fun S F => syncS S F (segS nm (k + 1)).data.toList) S.step (gF2 nm k (flat (sn :: rs), la) (recP b, 0)) (gL k sn rs y) = (0, S.step.step, gF2 nm k (flat (sn :: rs), la) (recP b, (recP b).length), gL k sn rs y) :=
    wrP_is _ (by rw [segS_list]; exact e2.trans (gw_ok hsd h2))
  have t4 : beginP (k + 1) ((recP b).drop 8) S.step.step (gF2 nm k (flat (sn :: rs), la) (recP b, (recP b).length)) (gL k sn rs y) = (0, S.step.step, gF2 nm k (flat (sn :: rs), la) (recP b, (recP b).length), gL (k + 1) b [] 0) := gbegin _ _ rfl
  rw [run_ok t3, if_neg h2, run_ok t4]
  by_cases h3 : S.step.step.fuse = 0
  · have t5 : removeP (seg nm.data.toList k) S.step.step (gF2 nm k (flat (sn :: rs), la) (recP b, (recP b).length)) (gL (k + 1) b [] 0) = (8, S.step.step.gone, gF2 nm k (flat (sn :: rs), la) (recP b, (recP b).length), gL (k + 1) b [] 0) :=
      gremP _ _ (e3.trans (gw_torn hssd h3)) (by decide)
    rw [run_no t5 (by decide), if_pos h3]
    rfl
  have t5 : removeP (seg nm.data.toList k) S.step.step (gF2 nm k (flat (sn :: rs), la) (recP b, (recP b).length)) (gL (k + 1) b [] 0) = (0, S.step.step.step, [(seg nm.data.toList (k + 1), (recP b, (recP b).length))], gL (k + 1) b [] 0) :=
    gremP _ _ (e3.trans (gw_ok hssd h3)) (by decide)
  rw [run_ok t5, if_neg h3, runP]
  unfold gF
  rw [flat_one]
theorem gturn_full (hn : Nm1 nm) (hk : k + 1 ≤ 2147483647) (hb : b.length ≤ 1048576) (hfit : ¬ (flat (sn :: rs)).length + (8 + b.length) ≤ S.cap) :
    turnL nm S (gF nm k sn rs la) (gL k sn rs y) b = (5, S, gF nm k sn rs la, gL k sn rs y) := by
  have e1 := gapp2_full (la := la) hn hk hfit
  unfold turnL
  rw [if_neg (by omega), if_neg (by show ¬ (false = true); simp), if_neg (by show ¬ (k = 2147483647); omega)]
  have t1 : removeP (seg nm.data.toList (k + 1)) S (gF nm k sn rs la) (gL k sn rs y) = (0, S, gF nm k sn rs la, gL k sn rs y) := gremnone hn hk _
  show runP [removeP (seg nm.data.toList (k + 1)), wrP fun S F => appendS S F (segS nm (k + 1)).data.toList (recP b), wrP fun S F => syncS S F (segS nm (k + 1)).data.toList, beginP (k + 1) ((recP b).drop 8), removeP (seg nm.data.toList k)] S (gF nm k sn rs la) (gL k sn rs y) = _
  rw [run_ok t1]
  have t2 : (wrP fun S F => appendS S F (segS nm (k + 1)).data.toList (recP b)) S (gF nm k sn rs la) (gL k sn rs y) = (5, S, gF nm k sn rs la, gL k sn rs y) :=
    wrP_is _ (by rw [segS_list]; exact e1)
  rw [run_no t2 (by decide)]
  rfl
end
/-! An opening. -/
section
variable {nm : ByteArray} {k : Nat} {sn : List UInt8} {rs : List (List UInt8)} {S : Ds}
theorem nums_one (hk1 : 1 ≤ k) (hk : k ≤ 2147483647) (x : List UInt8 × Nat) : numsP nm.data.toList [(seg nm.data.toList k, x)] = [k] := by
  unfold numsP numsF
  rw [List.map_cons, List.map_nil, numP_seg _ _ hk1 hk]
  simp [hk1, sortN, insN]
theorem nums_two (hk1 : 1 ≤ k) (hk : k + 1 ≤ 2147483647) (x1 x2 : List UInt8 × Nat) : numsP nm.data.toList (gF2 nm k x1 x2) = [k, k + 1] := by
  have h1 := numP_seg nm.data.toList k hk1 (by omega)
  have h2 := numP_seg nm.data.toList (k + 1) (by omega) hk
  unfold numsP numsF gF2
  split
  · simp only [List.map_cons, List.map_nil, h1, h2]
    simp [hk1, sortN, insN]
  · simp only [List.map_cons, List.map_nil, h1, h2]
    simp [hk1, sortN, insN]
theorem bytes_one (hn : Nm1 nm) (hk : k ≤ 2147483647) (x : List UInt8 × Nat) : bytesP [(seg nm.data.toList k, x)] (segS nm k).data.toList = x.1 := by
  unfold bytesP
  rw [segS_list, if_pos (may_seg hn.may hn.len hk), find_one]
theorem bytes_new (hn : Nm1 nm) (hk : k + 1 ≤ 2147483647) (x1 x2 : List UInt8 × Nat) : bytesP (gF2 nm k x1 x2) (segS nm (k + 1)).data.toList = x2.1 := by
  unfold bytesP
  rw [segS_list, if_pos (may_seg hn.may hn.len hk), g2_new hk]
theorem bytes_old (hn : Nm1 nm) (hk : k + 1 ≤ 2147483647) (x1 x2 : List UInt8 × Nat) : bytesP (gF2 nm k x1 x2) (segS nm k).data.toList = x1.1 := by
  unfold bytesP
  rw [segS_list, if_pos (may_seg hn.may hn.len (by omega)), g2_old hk]
theorem end_flat (c : List (List UInt8)) : endP (endsP 0 c) = (flat c).length := by
  have h := endsP_last 0 c
  unfold endP
  rw [h]; omega
/-- A segment is taken up, whatever stands beside it: F m is the disk where its file has m. -/
theorem gtake (hk : k ≤ 2147483647) (hn : Nm1 nm) (hd : S.dead = false) (hf : S.fuse = -1) (m la : Nat) (hall : ∀ b ∈ sn :: rs, b.length ≤ 1048576) (hm : 8 + sn.length ≤ m) (hml : m ≤ (flat (sn :: rs)).length)
    (F : List UInt8 × Nat → List Fp) (hcut : ∀ (S : Ds) x e, e ≤ x.1.length → cutS S (F x) (seg nm.data.toList k) (e : Nat) = writeS S (F (x.1.take e, min x.2 e)) (F x) (F x))
    (hsync : ∀ (S : Ds) x, syncS S (F x) (seg nm.data.toList k) = writeS S (F (x.1, x.1.length)) (F x) (F x)) (gs : List PStep) :
    ∃ wr, runP (takeSteps nm k ((flat (sn :: rs)).take m) ++ gs) S (F ((flat (sn :: rs)).take m, la)) L0 =
      runP gs ⟨S.cap, -1, false, wr⟩ (F (flat (sn :: cutK (m - (8 + sn.length)) rs), (flat (sn :: cutK (m - (8 + sn.length)) rs)).length)) (gL k sn (cutK (m - (8 + sn.length)) rs) (cutK (m - (8 + sn.length)) rs).length) ∧ wr ≤ S.wr + 2 := by
  have hc : cutK m (sn :: rs) = sn :: cutK (m - (8 + sn.length)) rs := by rw [cutK, if_pos hm]
  have hw : wholeP ((flat (sn :: rs)).take m) = endsP 0 (sn :: cutK (m - (8 + sn.length)) rs) := by rw [whole_take _ _ hall, hc]
  have hfl := cutK_flat (sn :: rs) m
  have hle := cutK_len (sn :: rs) m
  rw [hc] at hfl hle
  have hlen : ((flat (sn :: rs)).take m).length = m := by rw [List.length_take]; omega
  obtain ⟨c, hcc⟩ : ∃ c, c = cutK (m - (8 + sn.length)) rs := ⟨_, rfl⟩
  rw [← hcc] at hw hfl hle ⊢
  have hs1 : S.fuse ≠ 0 := by rw [hf]; decide
  have hss : S.step = ⟨S.cap, -1, false, S.wr + 1⟩ := by
    obtain ⟨a, b, c, d⟩ := S
    subst hd hf
    rfl
  have hsss : S.step.step = ⟨S.cap, -1, false, S.wr + 2⟩ := by rw [hss]; rfl
  have htk : takeP k ((endsP 0 (sn :: c)).map (·.1)).head! ((endsP 0 (sn :: c)).map (·.1)).tail (endP (endsP 0 (sn :: c))) = takeP k sn c (flat (sn :: c)).length := by
    rw [endsP_fst, end_flat]; rfl
  have hgl : ∀ (S' : Ds) F', takeP k sn c (flat (sn :: c)).length S' F' L0 = (0, S', F', gL k sn c c.length) := fun S' F' => rfl
  unfold takeSteps
  rw [hw, htk, end_flat, hlen]
  by_cases he : (flat (sn :: c)).length < m
  · rw [decide_eq_true he]
    refine ⟨S.wr + 2, ?_, Nat.le_refl _⟩
    have h5 : ((flat (sn :: rs)).take m).take (flat (sn :: c)).length = flat (sn :: c) := by rw [List.take_take, Nat.min_eq_left (by omega), hfl]
    have t1 : (wrP fun S F => cutS S F (segS nm k).data.toList ((flat (sn :: c)).length : Nat)) S (F ((flat (sn :: rs)).take m, la)) L0 = (0, S.step, F (flat (sn :: c), min la (flat (sn :: c)).length), L0) :=
      wrP_is _ (by
        rw [segS_list]
        have h7 := (hcut S ((flat (sn :: rs)).take m, la) (flat (sn :: c)).length (by show _ ≤ ((flat (sn :: rs)).take m).length; omega)).trans (gw_ok hd hs1)
        dsimp only at h7
        rw [h5] at h7
        exact h7)
    have t2 : (wrP fun S F => syncS S F (segS nm k).data.toList) S.step (F (flat (sn :: c), min la (flat (sn :: c)).length)) L0 = (0, S.step.step, F (flat (sn :: c), (flat (sn :: c)).length), L0) :=
      wrP_is _ (by rw [segS_list]; exact (hsync S.step _).trans (gw_ok hd (by rw [hss]; show ¬ ((-1 : Int) = 0); decide)))
    show runP (_ :: _ :: _ :: gs) _ _ _ = _
    rw [run_ok t1, run_ok t2, run_ok (hgl _ _), hsss]
  · rw [decide_eq_false he]
    refine ⟨S.wr + 1, ?_, by omega⟩
    have h6 : (flat (sn :: c)).length = m := by omega
    have h5 : (flat (sn :: rs)).take m = flat (sn :: c) := by rw [← hfl, h6]
    have t2 : (wrP fun S F => syncS S F (segS nm k).data.toList) S (F ((flat (sn :: rs)).take m, la)) L0 = (0, S.step, F (flat (sn :: c), (flat (sn :: c)).length), L0) :=
      wrP_is _ (by rw [segS_list, h5]; exact (hsync S _).trans (gw_ok hd hs1))
    show runP (_ :: _ :: gs) _ _ _ = _
    rw [run_ok t2, run_ok (hgl _ _), hss]
theorem cut_one (hn : Nm1 nm) (hk : k ≤ 2147483647) (S : Ds) (x : List UInt8 × Nat) (e : Nat) (he : e ≤ x.1.length) : cutS S [(seg nm.data.toList k, x)] (seg nm.data.toList k) (e : Nat) = writeS S [(seg nm.data.toList k, (x.1.take e, min x.2 e))] [(seg nm.data.toList k, x)] [(seg nm.data.toList k, x)] := by
  unfold cutS
  rw [if_pos ⟨may_seg hn.may hn.len hk, by omega⟩, find_one]
  dsimp only
  rw [if_neg (by omega), set_one]
  rfl
theorem sync_one (hn : Nm1 nm) (hk : k ≤ 2147483647) (S : Ds) (x : List UInt8 × Nat) : syncS S [(seg nm.data.toList k, x)] (seg nm.data.toList k) = writeS S [(seg nm.data.toList k, (x.1, x.1.length))] [(seg nm.data.toList k, x)] [(seg nm.data.toList k, x)] := by
  unfold syncS
  rw [if_pos (may_seg hn.may hn.len hk), find_one]
  dsimp only
  rw [set_one]
/-- One segment alone. -/
theorem gopen1 (hn : Nm1 nm) (hk1 : 1 ≤ k) (hk : k ≤ 2147483647) (hd : S.dead = false) (hf : S.fuse = -1) (m la : Nat) (hall : ∀ b ∈ sn :: rs, b.length ≤ 1048576) (hm : 8 + sn.length ≤ m) (hml : m ≤ (flat (sn :: rs)).length) :
    ∃ wr, openL nm S [(seg nm.data.toList k, (flat (sn :: rs)).take m, la)] = (0, ⟨S.cap, -1, false, wr⟩, gF nm k sn (cutK (m - (8 + sn.length)) rs) (flat (sn :: cutK (m - (8 + sn.length)) rs)).length, gL k sn (cutK (m - (8 + sn.length)) rs) (cutK (m - (8 + sn.length)) rs).length) ∧ wr ≤ S.wr + 2 := by
  obtain ⟨wr, h1, h2⟩ := gtake hk hn hd hf m la hall hm hml (fun x => [(seg nm.data.toList k, x)]) (cut_one hn hk) (sync_one hn hk) []
  refine ⟨wr, ?_, h2⟩
  unfold openL openSteps
  rw [nums_one hk1 hk]
  have hw : wholeP ((flat (sn :: rs)).take m) = endsP 0 (sn :: cutK (m - (8 + sn.length)) rs) := by rw [whole_take _ _ hall, cutK, if_pos hm]
  show runP (openAt nm _ [k] 1) _ _ _ = _
  rw [openAt]
  show runP (if (wholeP (bytesP _ (segS nm k).data.toList)).isEmpty = true then _ else takeSteps nm k (bytesP _ (segS nm k).data.toList) ++ remsP nm ([k].eraseIdx 0)) _ _ _ = _
  rw [bytes_one hn hk, hw, if_neg (by simp [endsP])]
  exact h1
end
end Go.Proofs.YtibifnknkphanaaGreatDoor

/-
  WalTurned, plainly: what each call comes to.
-/
namespace Go.Proofs.YtibifnknkphanaaGreatDoor
open Go.RowKit
open DskM WalM
set_option linter.unusedVariables false
set_option linter.unusedSimpArgs false

theorem flat_length : ∀ ls : List (List UInt8), (flat ls).length = 8 * ls.length + (ls.map List.length).sum
  | [] => rfl
  | b :: r => by
    rw [flat_cons, List.length_append, recP_length, flat_length r, List.length_cons, List.map_cons, List.sum_cons]
    omega
theorem sum_take_le (bs : List (List UInt8)) (k : Nat) : ((bs.take k).map List.length).sum ≤ (bs.map List.length).sum := by
  conv => rhs; rw [← List.take_append_drop k bs]
  rw [List.map_append, List.sum_append]
  omega
theorem sum_get_le : ∀ (bs : List (List UInt8)) (b : List UInt8), b ∈ bs → b.length ≤ (bs.map List.length).sum
  | x :: bs, b, h => by
    rw [List.map_cons, List.sum_cons]
    rcases List.mem_cons.1 h with rfl | h
    · omega
    · have := sum_get_le bs b h; omega
theorem sum_succ_le (bs : List (List UInt8)) (k : Nat) (h : k < bs.length) : ((bs.take k).map List.length).sum + bs[k].length ≤ (bs.map List.length).sum := by
  have h1 := sum_take_le bs (k + 1)
  rw [List.take_succ_eq_append_getElem h, List.map_append, List.sum_append] at h1
  simpa using h1
def nmW : ByteArray := ⟨#[119]⟩
theorem nmW1 : Nm1 nmW := ⟨by kernel_rfl, by decide +kernel⟩
def tS0 : Ds := ⟨200000, -1, false, 0⟩
def tS (n : Nat) : Ds := ⟨200000, -1, false, n⟩
theorem tS_step (n : Nat) : (tS n).step = tS (n + 1) := rfl
theorem t_open : openL nmW tS0 [] = (0, tS 2, gF nmW 1 [] [] 8, gL 1 [] [] 0) := by kernel_rfl
/-- Behind k appended records. -/
def tA (k0 num : Nat) (sn : List UInt8) (la : Nat) (bs : List (List UInt8)) (k : Nat) : Out := (0, tS (k0 + k), gF nmW num sn (bs.take k) la, gL num sn (bs.take k) 0)
theorem t_app (k0 num : Nat) (sn : List UInt8) (la : Nat) (bs : List (List UInt8)) (k : Nat) (h : k < bs.length) (hk : num ≤ 2147483647) (hsn : sn.length ≤ 20000) (hl : bs.length ≤ 40) (hs : (bs.map List.length).sum ≤ 20000) :
    appendL nmW (tA k0 num sn la bs k).2.1 (tA k0 num sn la bs k).2.2.1 (tA k0 num sn la bs k).2.2.2 bs[k] = tA k0 num sn la bs (k + 1) := by
  have h1 := sum_succ_le bs k h
  have h2 := flat_length (sn :: bs.take k)
  rw [List.length_cons, List.length_take, List.map_cons, List.sum_cons] at h2
  have h3 := gappend (nm := nmW) (k := num) (la := la) (y := 0) (sn := sn) (b := bs[k]) (rs := bs.take k) (S := tS (k0 + k)) nmW1 hk rfl (by show ¬ ((-1 : Int) = 0); decide) (by omega) (by show 200000 ≤ 16777216; omega) (by show _ ≤ 200000; omega)
  rw [tS_step, ← List.take_succ_eq_append_getElem h] at h3
  exact h3
theorem t_turn (k0 : Nat) (la : Nat) (bs : List (List UInt8)) (sn : List UInt8) (hsn : sn.length ≤ 20000) (hl : bs.length ≤ 40) (hs : (bs.map List.length).sum ≤ 20000) (ms : List (List UInt8)) :
    turnL nmW (tA k0 1 [] la bs bs.length).2.1 (tA k0 1 [] la bs bs.length).2.2.1 (tA k0 1 [] la bs bs.length).2.2.2 sn = tA (k0 + bs.length + 3) 2 sn (recP sn).length ms 0 := by
  have h2 := flat_length ([] :: bs)
  rw [List.length_cons, List.map_cons, List.sum_cons] at h2
  have h0 : ([] : List UInt8).length = 0 := rfl
  have h3 := gturn (nm := nmW) (k := 1) (la := la) (y := 0) (sn := []) (b := sn) (rs := bs) (S := tS (k0 + bs.length)) nmW1 (by omega) rfl (by omega) (by show _ ≤ 200000; omega)
  rw [if_neg (by show ¬ ((-1 : Int) = 0); decide), tS_step, if_neg (by show ¬ ((-1 : Int) = 0); decide), tS_step, if_neg (by show ¬ ((-1 : Int) = 0); decide), tS_step] at h3
  unfold tA
  rw [List.take_length]
  exact h3
/-- Behind Sync. -/
def tY (k0 num : Nat) (sn : List UInt8) (bs : List (List UInt8)) : Out := (0, tS (k0 + bs.length + 1), gF nmW num sn bs (flat (sn :: bs)).length, gL num sn bs bs.length)
theorem t_sync (k0 num : Nat) (sn : List UInt8) (la : Nat) (bs : List (List UInt8)) (hk : num ≤ 2147483647) :
    syncL nmW (tA k0 num sn la bs bs.length).2.1 (tA k0 num sn la bs bs.length).2.2.1 (tA k0 num sn la bs bs.length).2.2.2 = tY k0 num sn bs := by
  have h3 := gsync (nm := nmW) (k := num) (la := la) (y := 0) (sn := sn) (rs := bs) (S := tS (k0 + bs.length)) nmW1 hk rfl (by show ¬ ((-1 : Int) = 0); decide)
  unfold tA tY
  rw [List.take_length]
  exact h3
theorem keptN_all (n : Nat) : keptN n n [] = (n, []) := by
  unfold keptN
  simp
theorem t_crash (k0 num : Nat) (sn : List UInt8) (bs : List (List UInt8)) : crashP [] (tY k0 num sn bs).2.2.1 = [(seg nmW.data.toList num, (flat (sn :: bs)).take (flat (sn :: bs)).length, (flat (sn :: bs)).length)] := by
  unfold tY gF
  show crashP [] [(_, _, _)] = _
  rw [crashP]
  dsimp only
  rw [keptN_all]
  rfl
theorem t_open2 (num : Nat) (sn : List UInt8) (bs : List (List UInt8)) (h1 : 1 ≤ num) (hk : num ≤ 2147483647) (hsn : sn.length ≤ 20000) (hs : (bs.map List.length).sum ≤ 20000) :
    ∃ wr, openL nmW tS0 [(seg nmW.data.toList num, (flat (sn :: bs)).take (flat (sn :: bs)).length, (flat (sn :: bs)).length)] = (0, tS wr, gF nmW num sn bs (flat (sn :: bs)).length, gL num sn bs bs.length) ∧ wr ≤ 2 := by
  have h2 := flat_length (sn :: bs)
  rw [List.length_cons, List.map_cons, List.sum_cons] at h2
  obtain ⟨wr, h3, h4⟩ := gopen1 (nm := nmW) (k := num) (sn := sn) (rs := bs) (S := tS0) nmW1 h1 hk rfl rfl (flat (sn :: bs)).length (flat (sn :: bs)).length (fun b hb => by
    rcases List.mem_cons.1 hb with rfl | hb
    · omega
    · have := sum_get_le bs b hb; omega) (by omega) (Nat.le_refl _)
  refine ⟨wr, ?_, by have : tS0.wr = 0 := rfl; omega⟩
  rw [cutK_all bs _ (by
    have e := flat_length bs
    omega)] at h3
  exact h3
end Go.Proofs.YtibifnknkphanaaGreatDoor

/-
  The walk of the document's compact.
-/
import Derived.Test.YtoglhpcboonpeaaCtxRefA
import Derived.Test.YtoglhpcboonpeaaCtxAdd
namespace Go.Proofs.Ytoglhpcboonpeaa
open Go.RowKit
open CtxM
set_option linter.unusedVariables false
set_option linter.unusedSimpArgs false
set_option maxRecDepth 20000

theorem sxc_setOne {w : World} {g : Nat} {t : TypeId} {V : List Nat} {v : Value} (h : Blk w g t (sxc V v)) (k n : Nat) (hk : k < V.length) : Blk (w.setCell ⟨g, k, none⟩ (.int .u64 (n : Int))) g t (sxc (V.set k n) v) := by
  have := h.set_ k (.int .u64 (n : Int))
  have e : (sxc V v).setIfInBounds k (.int .u64 (n : Int)) = sxc (V.set k n) v := by
    unfold sxc
    rw [List.setIfInBounds_toArray]
    congr 1
    rw [List.set_append, if_pos (by simpa using hk), List.map_set]
    rfl
  rw [e] at this
  exact this
theorem sxc_setExtra {w : World} {g : Nat} {t : TypeId} {V : List Nat} {v : Value} (h : Blk w g t (sxc V v)) (hV : V.length = 16) (u : Value) : Blk (w.setCell ⟨g, 16, none⟩ u) g t (sxc V u) := by
  have := h.set_ 16 u
  have e : (sxc V v).setIfInBounds 16 u = sxc V u := by
    unfold sxc
    rw [List.setIfInBounds_toArray]
    congr 1
    rw [List.set_append, if_neg (by simp [hV])]
    simp [hV]
  rw [e] at this
  exact this
theorem sxc_at {w : World} {g : Nat} {t : TypeId} {V : List Nat} {v : Value} (h : Blk w g t (sxc V v)) (hV : V.length = 16) (k : Nat) (hk : k < 16) : w.cell? ⟨g, k, none⟩ = some (.int .u64 (CtxM.at_ V ((k : Int) + 1) : Int)) := by
  have hl : k < V.length := by omega
  rw [h.cell, sxc]
  simp only [List.getElem?_toArray]
  rw [List.getElem?_append_left (by simpa using hl), List.getElem?_map, List.getElem?_eq_getElem hl]
  show some (uq _) = _
  unfold CtxM.at_
  rw [show ((k : Int) + 1 - 1).toNat = k by omega, List.getD_eq_getElem?_getD, List.getElem?_eq_getElem hl]
  rfl
theorem sxc_extra {w : World} {g : Nat} {t : TypeId} {V : List Nat} {v : Value} (h : Blk w g t (sxc V v)) (hV : V.length = 16) : w.cell? ⟨g, 16, none⟩ = some v := by
  rw [h.cell, sxc]
  simp only [List.getElem?_toArray]
  rw [List.getElem?_append_right (by simp [hV])]
  simp [hV]

theorem cp_next {U : List Nat} {d : Dt} {L : List Dt} (h : d.2 = at_ U d.1 + 1) : cp U (d :: L) = cp (U.set (d.1 - 1).toNat d.2) L := by rw [cp, if_pos h]
theorem cp_keep {U : List Nat} {d : Dt} {L : List Dt} (h : d.2 ≠ at_ U d.1 + 1) (k : at_ U d.1 < d.2) : cp U (d :: L) = ((cp U L).1, d :: (cp U L).2) := by rw [cp, if_neg h, if_pos k]
theorem cp_skip {U : List Nat} {d : Dt} {L : List Dt} (h : d.2 ≠ at_ U d.1 + 1) (k : ¬ at_ U d.1 < d.2) : cp U (d :: L) = cp U L := by rw [cp, if_neg h, if_neg k]
theorem blk_pair {w : World} {b : Nat} {d : Dt} (h : Blk w b 35 #[.int .i64 d.1, .int .u64 (d.2 : Int)]) : Sd w (.slice (some ⟨b, 0, none⟩) 1 1) [d] := by
  refine ⟨_, 1, rfl, by simp, fun _ => ⟨b, 0, rfl, fun j hj => ?_⟩⟩
  obtain rfl : j = 0 := by simpa using hj
  exact ⟨by rw [h.cell]; rfl, by rw [h.cell]; rfl⟩

set_option maxHeartbeats 4000000 in
theorem refCompact_any (g : Nat) (v : Value) (V : List Nat) (X : List Dt) (w : World) (hB : Blk w g 30 (sxc V v)) (hs : Sd w v X) (hvb : v.ownBlock ≠ some g) (hV : V.length = 16) (hle : ∀ n ∈ V, n ≤ top) (hm : ∀ d ∈ X, May d) (hl : X.length ≤ 100000) :
    Calls Try.prog 40 #[.pointer (some ⟨g, 0, none⟩)] w fun e w' => e = .returned (.tuple #[]) ∧ ∃ v', Blk w' g 30 (sxc (cp V X).1 v') ∧ OwnD w' w.heap.size v' (cp V X).2 ∧ Keep (fun i => i = g) w w' := by
  obtain ⟨i0, hi0, hz0, hz1, hz2⟩ := info_parts info_dot
  have hfo : Try.prog.follows .mixedOrders = true := by kernel_rfl
  have hglt := hB.lt
  obtain ⟨A, c, rfl, hcc, _⟩ := id hs
  have HS := Lib.hid hs
  clear hs
  go_enter Try.func40, Try.ntmps40
  go_wp2
  go_loopw [2, 3] (fun x z wr => ∃ (i : Nat) (U : List Nat) (acc : List Dt), z = .int .i64 (i : Int) ∧ i ≤ X.length ∧ U.length = 16 ∧ (∀ n ∈ U, n ≤ top) ∧ (cp V X).1 = (cp U (X.drop i)).1 ∧ (cp V X).2 = acc ++ (cp U (X.drop i)).2 ∧ acc.length ≤ i ∧ Blk wr g 30 (sxc U (.slice A X.length c)) ∧ OwnD wr w.heap.size x acc ∧ Keep (fun i => i = g) w wr) (fun _ z _ => X.length - (intOf z).toNat)
  case atStart => exact ⟨0, V, [], rfl, Nat.zero_le _, hV, hle, rfl, rfl, Nat.le_refl _, hB, OwnD.nil, Keep.refl _ _⟩
  case round =>
    obtain ⟨i, U, acc, rfl, hi, hU, hUl, hc1, hc2, hal, hBr, ho, hk⟩ := hrel
    have hsz := hk.size
    have hx := sxc_extra hBr hU
    have H1 := Lib.hid hc1
    have H2 := Lib.hid hc2
    have HU := Lib.hid hU
    clear hc1 hc2 hU
    by_cases hlt : i < X.length
    · obtain ⟨d, hd⟩ : ∃ d, X[i] = d := ⟨_, rfl⟩
      have hsr := HS.out.kept hk (fun j hj e => hvb (e ▸ hj))
      obtain ⟨b, o, rfl, k0, k1⟩ := hsr.at_ i hlt d hd
      have hdrop : X.drop i = d :: X.drop (i + 1) := by rw [← hd]; exact List.drop_eq_getElem_cons hlt
      have hdm : May d := hm d (by rw [← hd]; exact List.getElem_mem _)
      have HD := Lib.hid hdrop
      have HM := Lib.hid hdm
      obtain ⟨k, hkk⟩ : ∃ k : Nat, d.1 = (k : Int) + 1 := ⟨(d.1 - 1).toNat, by have := hdm.1; omega⟩
      have hk16 : k < 16 := by have := hdm.2.1; omega
      have hkt : (d.1 - 1).toNat = k := by omega
      obtain ⟨m, hmm⟩ : ∃ m, m = at_ U ((k : Int) + 1) := ⟨_, rfl⟩
      have hmt : m ≤ top := by rw [hmm]; exact at_le hUl _
      have hw1 : IntKind.u64.wrap ((m : Int) + 1) = (m : Int) + 1 := by rw [IntKind.wrap_u64]; unfold top at hmt; omega
      have hwk : IntKind.i64.wrap (k : Int) = (k : Int) := by rw [IntKind.wrap_i64]; omega
      have hk0 : (0 : Int) ≤ (k : Int) := by omega
      have hk1 : (k : Int) < 16 := by omega
      have HK := Lib.hid hkk
      have HKT := Lib.hid hkt
      have HMM := Lib.hid hmm
      have bA : Blk (wr.alloc (.cells #[.int .i64 ((k : Int) + 1), .int .u64 (d.2 : Int)] 35)) wr.heap.size 35 #[.int .i64 ((k : Int) + 1), .int .u64 (d.2 : Int)] := Blk.new _ _ _
      have kA : Below wr.heap.size wr (wr.alloc (.cells #[.int .i64 ((k : Int) + 1), .int .u64 (d.2 : Int)] 35)) := (Below.refl _ _).alloc (Nat.le_refl _) _
      have q2 := sxc_at hBr HU.out k hk16
      rw [← hmm] at q2
      rw [hkk] at k0
      have hne : ¬ (wr.heap.size = g) := by omega
      have hil : ¬ (X.length : Int) ≤ (i : Int) := by omega
      clear hkk hkt hmm hdrop hd hdm
      have e1 : d.2 = m + 1 ∨ (d.2 ≠ m + 1 ∧ m < d.2) ∨ (d.2 ≠ m + 1 ∧ ¬ m < d.2) := by omega
      have hBr2 := hBr.below kA hBr.lt
      have ho2 := ho.below kA
      have hk2 : Keep (fun i => i = g) w (wr.alloc (.cells #[.int .i64 ((k : Int) + 1), .int .u64 (d.2 : Int)] 35)) := hk.trans (Keep.of_below (S := fun i => i = g) kA) (fun _ h => h) (fun _ _ h => h)
      have hs2 := (HS.out.kept hk2 (fun j hj e => hvb (e ▸ hj)))
      go_wp2_with fail
      have hdne : g ≠ wr.heap.size := fun e => hne e.symm
      have hszd : wr.heap.size < (wr.alloc (.cells #[.int .i64 ((k : Int) + 1), .int .u64 (d.2 : Int)] 35)).heap.size := bA.lt
      clear k0 k1 hx hBr ho hk kA
      generalize (wr.alloc (.cells #[.int .i64 ((k : Int) + 1), .int .u64 (d.2 : Int)] 35)) = w2 at bA hBr2 ho2 hk2 hs2 hszd ⊢
      have p0 : w2.cell? ⟨wr.heap.size, 0, none⟩ = some (.int .i64 ((k : Int) + 1)) := by rw [bA.cell]; rfl
      have p1 : w2.cell? ⟨wr.heap.size, 1, none⟩ = some (.int .u64 (d.2 : Int)) := by rw [bA.cell]; rfl
      have p2 := sxc_at hBr2 HU.out k hk16
      rw [← HMM.out] at p2
      clear q2
      rcases e1 with e1 | ⟨e1, e2⟩ | ⟨e1, e2⟩
      · have b1 : ((d.2 : Int) == (m : Int) + 1) = true := by rw [beq_iff_eq]; omega
        have HE := Lib.hid e1
        clear e1
        go_quiet (fail)
        go_wp2_with fail
        have bB : Blk (w2.drewN nq).drew wr.heap.size 35 #[.int .i64 ((k : Int) + 1), .int .u64 (d.2 : Int)] := bA
        have hBr3 : Blk (w2.drewN nq).drew g 30 (sxc U (.slice (some ⟨b, o, none⟩) X.length c)) := hBr2
        have ho3 : OwnD (w2.drewN nq).drew w.heap.size u2 acc := ho2
        have hk3 : Keep (fun i => i = g) w (w2.drewN nq).drew := hk2.trans (Keep.of_below (S := fun i => i = g) (below_drewN (Below.refl _ _) nq).drew) (fun _ h => h) (fun _ _ h => h)
        have hsz3 : wr.heap.size < (w2.drewN nq).drew.heap.size := hszd
        refine wp_region_still_tail 9 hfo (by kernel_rfl) ?_
        simp only [List.take_succ_cons, List.take_zero, List.drop_succ_cons, List.drop_zero]
        change wpStill _ _ (w2.drewN nq).drew (fun a' => wpList _ _ _ _ a' (w2.drewN nq).drew) _ _
        clear p0 p1 p2
        generalize (w2.drewN nq).drew = w3 at bB hBr3 ho3 hk3 hsz3 ⊢
        have p0 : w3.cell? ⟨wr.heap.size, 0, none⟩ = some (.int .i64 ((k : Int) + 1)) := by rw [bB.cell]; rfl
        have p1 : w3.cell? ⟨wr.heap.size, 1, none⟩ = some (.int .u64 (d.2 : Int)) := by rw [bB.cell]; rfl
        have p2 := sxc_at hBr3 HU.out k hk16
        have p3 := hBr3.frozen k
        repeat still_step
        refine wpStill_nil ?_
        go_wp2
        have hset := sxc_setOne hBr3 k d.2 (by rw [HU.out]; exact hk16)
        have hcp := cp_next (L := X.drop (i + 1)) (show d.2 = at_ U d.1 + 1 by rw [HK.out, ← HMM.out]; exact HE.out)
        rw [HKT.out, ← HD.out] at hcp
        refine ⟨⟨i + 1, U.set k d.2, acc, by go_num, by omega, by rw [List.length_set]; exact HU.out, set_le hUl HM.out.2.2.2 k, by rw [H1.out, hcp], by rw [H2.out, hcp], by omega, hset, ?_, ?_⟩, by simp [intOf]; omega⟩
        · exact ho3.keep fun j hj => Below.heap_setCell _ _ _ j (fun e => by have h1 := (ho3.lt j hj).1; have h2 : j = g := e; omega)
        · exact hk3.trans (Keep.setCell (S := fun i => i = g) w3 ⟨g, k, none⟩ _ rfl) (fun _ h => h) (fun _ _ h => h)
      · have b1 : ((d.2 : Int) == (m : Int) + 1) = false := by rw [beq_eq_false_iff_ne]; omega
        have b2 : decide ((m : Int) < (d.2 : Int)) = true := decide_eq_true (by omega)
        have HE := Lib.hid e1
        have HE2 := Lib.hid e2
        clear e1 e2
        go_quiet (fail)
        go_wp2_with fail
        clear p0 p1 p2
        have bB : Blk (w2.drewN nq) wr.heap.size 35 #[.int .i64 ((k : Int) + 1), .int .u64 (d.2 : Int)] := bA
        have hBr3 : Blk (w2.drewN nq) g 30 (sxc U (.slice (some ⟨b, o, none⟩) X.length c)) := hBr2
        have ho3 : OwnD (w2.drewN nq) w.heap.size u2 acc := ho2
        have hk3 : Keep (fun i => i = g) w (w2.drewN nq) := hk2.trans (Keep.of_below (S := fun i => i = g) (below_drewN (Below.refl _ _) nq)) (fun _ h => h) (fun _ _ h => h)
        have hsz3 : wr.heap.size < (w2.drewN nq).heap.size := hszd
        generalize w2.drewN nq = w3 at bB hBr3 ho3 hk3 hsz3 ⊢
        have p0 : w3.cell? ⟨wr.heap.size, 0, none⟩ = some (.int .i64 ((k : Int) + 1)) := by rw [bB.cell]; rfl
        have p1 : w3.cell? ⟨wr.heap.size, 1, none⟩ = some (.int .u64 (d.2 : Int)) := by rw [bB.cell]; rfl
        have p2 := sxc_at hBr3 HU.out k hk16
        rw [← HMM.out] at p2
        go_quiet (fail)
        have bC : Blk (w3.drewN nq) wr.heap.size 35 #[.int .i64 ((k : Int) + 1), .int .u64 (d.2 : Int)] := bB
        have hBr4 : Blk (w3.drewN nq) g 30 (sxc U (.slice (some ⟨b, o, none⟩) X.length c)) := hBr3
        have ho4 : OwnD (w3.drewN nq) w.heap.size u2 acc := ho3
        have hk4 : Keep (fun i => i = g) w (w3.drewN nq) := hk3.trans (Keep.of_below (S := fun i => i = g) (below_drewN (Below.refl _ _) nq)) (fun _ h => h) (fun _ _ h => h)
        have hsz4 : wr.heap.size < (w3.drewN nq).heap.size := hsz3
        clear p0 p1 p2 bB hBr3 ho3 hk3 hsz3
        generalize w3.drewN nq = w4 at bC hBr4 ho4 hk4 hsz4 ⊢
        have p0 : w4.cell? ⟨wr.heap.size, 0, none⟩ = some (.int .i64 ((k : Int) + 1)) := by rw [bC.cell]; rfl
        have p1 : w4.cell? ⟨wr.heap.size, 1, none⟩ = some (.int .u64 (d.2 : Int)) := by rw [bC.cell]; rfl
        have ho5 : OwnD (w4.alloc (.cells #[.int .i64 ((k : Int) + 1), .int .u64 (d.2 : Int)] 35)) w.heap.size u2 acc := ho4.alloc _
        have bD := Blk.new w4 35 #[.int .i64 ((k : Int) + 1), .int .u64 (d.2 : Int)]
        have hk5 : Keep (fun i => i = g) w (w4.alloc (.cells #[.int .i64 ((k : Int) + 1), .int .u64 (d.2 : Int)] 35)) := hk4.trans (Keep.of_below (S := fun i => i = g) ((Below.refl _ _).alloc (Nat.le_refl _) _)) (fun _ h => h) (fun _ _ h => h)
        have hBr5 := hBr4.alloc (.cells #[.int .i64 ((k : Int) + 1), .int .u64 (d.2 : Int)] 35)
        have hs1 : Sd (w4.alloc (.cells #[.int .i64 ((k : Int) + 1), .int .u64 (d.2 : Int)] 35)) (.slice (some ⟨w4.heap.size, 0, none⟩) 1 1) [d] := blk_pair (d := d) (by rw [HK.out]; exact bD)
        have hlen : acc.length + [d].length ≤ 1000000 := by simp; omega
        have hbase : w.heap.size ≤ (w4.alloc (.cells #[.int .i64 ((k : Int) + 1), .int .u64 (d.2 : Int)] 35)).heap.size := hk5.size
        clear hBr4 ho4 hk4 hBr2 ho2 hk2 hs2 bA bC
        go_wp2_with (refine wpList_append_dots _ rfl (.tmp 53) (.tmp 55) 22 rfl w.heap.size i0 Try.underlying22 hi0 hz0 hz1 hz2 u2 acc rfl ho5 _ [d] rfl hs1 hlen hbase ?_; intro v' w5 ho6 hgr _ _)
        have hcp := cp_keep (L := X.drop (i + 1)) (show d.2 ≠ at_ U d.1 + 1 by rw [HK.out, ← HMM.out]; exact HE.out) (show at_ U d.1 < d.2 by rw [HK.out, ← HMM.out]; exact HE2.out)
        rw [← HD.out] at hcp
        exact ⟨⟨i + 1, U, acc ++ [d], by go_num, by omega, HU.out, hUl, by rw [H1.out, hcp], by rw [H2.out, hcp, List.append_assoc]; rfl, by simp; omega, hBr5.past ho5 hgr hglt, ho6, hk5.trans (Keep.of_grown (S := fun i => i = g ∨ w.heap.size ≤ i) hgr (fun j hj => .inr (ho5.lt j hj).1)) (fun _ h => h) (fun j hj h => h.elim id fun h => absurd h (by omega))⟩, by simp [intOf]; omega⟩
      · have b1 : ((d.2 : Int) == (m : Int) + 1) = false := by rw [beq_eq_false_iff_ne]; omega
        have b2 : ¬ ((m : Int) < (d.2 : Int)) := by omega
        have HE := Lib.hid e1
        have HE2 := Lib.hid e2
        clear e1 e2
        go_quiet (fail)
        go_wp2_with fail
        clear p0 p1 p2
        have bB : Blk (w2.drewN nq) wr.heap.size 35 #[.int .i64 ((k : Int) + 1), .int .u64 (d.2 : Int)] := bA
        have hBr3 : Blk (w2.drewN nq) g 30 (sxc U (.slice (some ⟨b, o, none⟩) X.length c)) := hBr2
        have ho3 : OwnD (w2.drewN nq) w.heap.size u2 acc := ho2
        have hk3 : Keep (fun i => i = g) w (w2.drewN nq) := hk2.trans (Keep.of_below (S := fun i => i = g) (below_drewN (Below.refl _ _) nq)) (fun _ h => h) (fun _ _ h => h)
        have hsz3 : wr.heap.size < (w2.drewN nq).heap.size := hszd
        generalize w2.drewN nq = w3 at bB hBr3 ho3 hk3 hsz3 ⊢
        have p0 : w3.cell? ⟨wr.heap.size, 0, none⟩ = some (.int .i64 ((k : Int) + 1)) := by rw [bB.cell]; rfl
        have p1 : w3.cell? ⟨wr.heap.size, 1, none⟩ = some (.int .u64 (d.2 : Int)) := by rw [bB.cell]; rfl
        have p2 := sxc_at hBr3 HU.out k hk16
        rw [← HMM.out] at p2
        go_quiet (fail)
        have bC : Blk (w3.drewN nq) wr.heap.size 35 #[.int .i64 ((k : Int) + 1), .int .u64 (d.2 : Int)] := bB
        have hBr4 : Blk (w3.drewN nq) g 30 (sxc U (.slice (some ⟨b, o, none⟩) X.length c)) := hBr3
        have ho4 : OwnD (w3.drewN nq) w.heap.size u2 acc := ho3
        have hk4 : Keep (fun i => i = g) w (w3.drewN nq) := hk3.trans (Keep.of_below (S := fun i => i = g) (below_drewN (Below.refl _ _) nq)) (fun _ h => h) (fun _ _ h => h)
        have hsz4 : wr.heap.size < (w3.drewN nq).heap.size := hsz3
        clear p0 p1 p2 bB hBr3 ho3 hk3 hsz3
        generalize w3.drewN nq = w4 at bC hBr4 ho4 hk4 hsz4 ⊢
        have p0 : w4.cell? ⟨wr.heap.size, 0, none⟩ = some (.int .i64 ((k : Int) + 1)) := by rw [bC.cell]; rfl
        have p1 : w4.cell? ⟨wr.heap.size, 1, none⟩ = some (.int .u64 (d.2 : Int)) := by rw [bC.cell]; rfl
        go_wp2
        have hcp := cp_skip (L := X.drop (i + 1)) (show d.2 ≠ at_ U d.1 + 1 by rw [HK.out, ← HMM.out]; exact HE.out) (show ¬ at_ U d.1 < d.2 by rw [HK.out, ← HMM.out]; exact HE2.out)
        rw [← HD.out] at hcp
        exact ⟨⟨i + 1, U, acc, by go_num, by omega, HU.out, hUl, by rw [H1.out, hcp], by rw [H2.out, hcp], by omega, hBr4, ho4, hk4⟩, by simp [intOf]; omega⟩
    · obtain rfl : i = X.length := by omega
      have h1 := H1.out
      have h2 := H2.out
      rw [List.drop_length] at h1 h2
      have e1 : (cp V X).1 = U := h1
      have e2 : (cp V X).2 = acc := by rw [h2]; simp [cp]
      have HE1 := Lib.hid e1
      have HE2 := Lib.hid e2
      have f16 := hBr.frozen 16
      obtain ⟨A9, n9, c9, rfl⟩ := ho.shape
      clear h1 h2 e1 e2 H1 H2
      go_wp2
      go_end0
      rw [HE1.out, HE2.out]
      refine ⟨rfl, _, sxc_setExtra hBr HU.out _, ?_, hk.trans (Keep.setCell (S := fun i => i = g) wr ⟨g, 16, none⟩ _ rfl) (fun _ h => h) (fun _ _ h => h)⟩
      exact ho.keep fun j hj => Below.heap_setCell _ _ _ j (fun e => by have h1 := (ho.lt j hj).1; have h2 : j = g := e; omega)
end Go.Proofs.Ytoglhpcboonpeaa

/-
  See.
-/
import Derived.Test.YtldfaaahmpncbaaGreatOrsAD
import Derived.Test.YtldfaaahmpncbaaGreatOrsAA
import Derived.Test.YtldfaaahmpncbaaGreatOrsAB
namespace Go.Proofs.YtldfaaahmpncbaaGreat
open Go.RowKit Go.Maps
open CtxM
set_option linter.unusedVariables false
set_option linter.unusedSimpArgs false
set_option maxRecDepth 20000

/-- What See has come to: live dots, tombstones, fresh dots, whether anything changed. -/
structure Sq where
  K : Kl
  T : Tl
  F : List Dt
  c : Bool
def seeK (i : It) (K : Kl) : Kl := if i.g = true then butD i.d K else (i.d, (i.t, i.v)) :: butD i.d K
def seeT (i : It) (T : Tl) : Tl := if i.g = true then (i.d, ()) :: butD i.d T else T
def seeU (C : Cst) (q : Sq) (i : It) : Bool := !(decide (i.d ∈ q.K.map Prod.fst) || decide (i.d ∈ q.T.map Prod.fst)) && !decide (In C.1 C.2 i.d)
def seeP (C : Cst) (q : Sq) (i : It) : Bool := seeU C q i || (decide (i.d ∈ q.K.map Prod.fst) && i.g)
def stepS (C : Cst) (q : Sq) (i : It) : Sq :=
  if seeP C q i = true then ⟨seeK i q.K, seeT i q.T, if seeU C q i = true then q.F ++ [i.d] else q.F, true⟩ else q
def seeAll (C : Cst) (q : Sq) (L : List It) : Sq := L.foldl (stepS C) q
theorem seeAll_take (C : Cst) (q : Sq) (L : List It) (k : Nat) (hk : k < L.length) : seeAll C q (L.take (k + 1)) = stepS C (seeAll C q (L.take k)) L[k] := by
  unfold seeAll
  rw [List.take_succ_eq_append_getElem hk, List.foldl_append]
  rfl
theorem butD_len {α : Type} (d : Dt) (L : List (Dt × α)) : (butD d L).length ≤ L.length := List.length_filter_le _ _
theorem stepS_len (C : Cst) (q : Sq) (i : It) : (stepS C q i).K.length ≤ q.K.length + 1 ∧ (stepS C q i).T.length ≤ q.T.length + 1 ∧ (stepS C q i).F.length ≤ q.F.length + 1 := by
  have h1 := butD_len i.d q.K
  have h2 := butD_len i.d q.T
  unfold stepS
  split
  · refine ⟨?_, ?_, ?_⟩
    · show (seeK i q.K).length ≤ _
      unfold seeK; split
      · omega
      · rw [List.length_cons]; omega
    · show (seeT i q.T).length ≤ _
      unfold seeT; split
      · rw [List.length_cons]; omega
      · omega
    · show (if seeU C q i = true then q.F ++ [i.d] else q.F).length ≤ _
      split <;> simp
  · omega
theorem seeAll_len (C : Cst) : ∀ (L : List It) (q : Sq), (seeAll C q L).K.length ≤ q.K.length + L.length ∧ (seeAll C q L).T.length ≤ q.T.length + L.length ∧ (seeAll C q L).F.length ≤ q.F.length + L.length
  | [], q => by simp [seeAll]
  | i :: L, q => by
    have h1 := stepS_len C q i
    have h2 := seeAll_len C L (stepS C q i)
    show (seeAll C (stepS C q i) L).K.length ≤ _ ∧ (seeAll C (stepS C q i) L).T.length ≤ _ ∧ (seeAll C (stepS C q i) L).F.length ≤ _
    simp only [List.length_cons]
    omega
/-- One round of See's loop, and what stands at its head. -/
structure SeL (w B : World) (wr : World) (p g : Nat) (v : Value) (V : List Nat) (X : List Dt) (b1 b2 : Nat) (q : Sq) (vf : Value) : Prop where
  os : Os wr p g v V X b1 b2 q.K q.T
  own : OwnD wr B.heap.size vf q.F
  bel : Below w.heap.size w wr
  siz : B.heap.size ≤ wr.heap.size
  b1 : w.heap.size ≤ b1 ∧ b1 < B.heap.size
  b2 : w.heap.size ≤ b2 ∧ b2 < B.heap.size
  low : p < B.heap.size ∧ ∀ i, Foot g v i → i < B.heap.size
theorem SeL.below {w B wr wx : World} {p g : Nat} {v : Value} {V : List Nat} {X : List Dt} {b1 b2 : Nat} {q : Sq} {vf : Value} (h : SeL w B wr p g v V X b1 b2 q vf) (hb : Below wr.heap.size wr wx) : SeL w B wx p g v V X b1 b2 q vf :=
  ⟨h.os.below hb, h.own.below hb, h.bel.trans (hb.mono h.bel.size), Nat.le_trans h.siz hb.size, h.b1, h.b2, h.low⟩
theorem ownsMap_kept {H : Type} {S : Nat → Prop} {w w' : World} {P : Program} {k : TypeId} {R : Value → Option (DataW H × List MemPlace)} {b n : Nat} {D : DataW H} (h : w.ownsMap P k R b n D) (hb : Keep S w w') (hn : ¬ S b) : w'.ownsMap P k R b n D := by
  have hlt := h.lt
  obtain ⟨es, clock, hh, F, hs, hD⟩ := h
  exact ⟨es, clock, (hb.block b hlt hn).trans hh, F, hs, hD⟩
theorem SeL.put {w B wr wx : World} {p g : Nat} {v : Value} {V : List Nat} {X : List Dt} {b1 b2 : Nat} {q : Sq} {vf : Value} (h : SeL w B wr p g v V X b1 b2 q vf) {K' : Kl} {T' : Tl} (ho : Os wx p g v V X b1 b2 K' T') (hk : Keep (fun j => j = b1 ∨ j = b2) wr wx) : SeL w B wx p g v V X b1 b2 ⟨K', T', q.F, true⟩ vf :=
  ⟨ho, h.own.kept hk (fun i e => by have := (h.own.lt i e).1; have := h.b1; have := h.b2; omega), Keep.below h.bel hk h.bel.size (by
    have h1 := h.b1; have h2 := h.b2
    rintro i (rfl | rfl)
    · exact h1.1
    · exact h2.1), Nat.le_trans h.siz hk.size, h.b1, h.b2, h.low⟩
theorem SeL.app {w B wr wx : World} {p g : Nat} {v : Value} {V : List Nat} {X : List Dt} {b1 b2 : Nat} {q : Sq} {vf vf' : Value} (h : SeL w B wr p g v V X b1 b2 q vf) {F' : List Dt} (ho : OwnD wx B.heap.size vf' F') (hg : wr.grownBy wx vf.ownBlock) (hw : w.heap.size ≤ B.heap.size) : SeL w B wx p g v V X b1 b2 ⟨q.K, q.T, F', q.c⟩ vf' :=
  have hk : Keep (fun i => vf.ownBlock = some i) wr wx := .of_grown hg (fun _ h => h)
  have hlt := fun i e => (h.own.lt i e).1
  ⟨⟨h.os.blk.kept hk (fun e => by have := hlt _ e; have := h.low.1; omega), h.os.cx.kept hk (fun i hi e => by have := hlt _ e; have := h.low.2 i hi; omega),
    ⟨ownsMap_kept h.os.ma.live hk (fun e => by have := hlt _ e; have := h.b1; omega), ownsMap_kept h.os.ma.tomb hk (fun e => by have := hlt _ e; have := h.b2; omega), h.os.ma.okl, h.os.ma.okt, h.os.ma.ne⟩, h.os.far, h.os.farP⟩,
   ho, Keep.below h.bel hk h.bel.size (fun i e => by have := hlt i e; omega), Nat.le_trans h.siz hk.size, h.b1, h.b2, h.low⟩
section
variable {w w' : World} {p g : Nat} {v : Value} {V : List Nat} {X : List Dt} {b1 b2 : Nat} {K : Kl} {T : Tl}
theorem Os.pfar (h : Os w p g v V X b1 b2 K T) : ¬ Foot g v p := by
  rintro (rfl | hp)
  · have := h.blk.symm.trans h.cx.blk
    simp at this
  · obtain ⟨cs, hcs⟩ := h.cx.row.blk p hp
    have := h.blk.symm.trans hcs
    simp at this
set_option maxHeartbeats 4000000 in
theorem osee_any (h : Os w p g v V X b1 b2 K T) (vl : Value) (L : List It) (hs : SlK kIt w vl L) (hL : L.length ≤ 100000) (hX : X.length ≤ 4096) (hK : K.length ≤ 100000) (hT : T.length ≤ 100000) :
    Calls Tryz.prog 34 #[.pointer (some ⟨p, 0, none⟩), vl] w fun e w' =>
      (e = .returned (.tuple #[.bool false, .int .i64 2]) ∧ Below w.heap.size w w' ∧ ∃ i ∈ L, itB i = false) ∨
      ((∀ i ∈ L, itB i = true) ∧ ∃ q, seeAll (V, X) ⟨K, T, [], false⟩ L = q ∧
        ((e = .returned (.tuple #[.bool false, .int .i64 5]) ∧ Below w.heap.size w w' ∧ ((1024 < q.K.length ∨ 4096 < q.K.length + q.T.length) ∨ ∃ M, Ord M ∧ M.Perm q.F ∧ passB (some (passA (V, X) M).1) (passA (V, X) M).2 = none)) ∨
         (¬ (1024 < q.K.length ∨ 4096 < q.K.length + q.T.length) ∧ ∃ M R, Ord M ∧ M.Perm q.F ∧ passB (some (passA (V, X) M).1) (passA (V, X) M).2 = some R ∧ R.2.length ≤ 4096 ∧ e = .returned (.tuple #[.bool q.c, .int .i64 0]) ∧
           Keep (fun i => i = p) w w' ∧ ∃ g' v' c1 c2, Os w' p g' v' R.1 R.2 c1 c2 q.K q.T ∧ (∀ i, Foot g' v' i → w.heap.size ≤ i) ∧ w.heap.size ≤ c1 ∧ w.heap.size ≤ c2))) := by
  have hfo : Tryz.prog.follows .mixedOrders = true := by kernel_rfl
  have hfl : Tryz.prog.follows .lateStores = true := by kernel_rfl
  obtain ⟨i0, hi0, hz0, hz1, hz2⟩ := info_parts info_dot
  have HCI := Lib.hid (fun W hb => containsI_any vl L W (hs.below hb) (by omega : L.length ≤ 900000))
  have hmf : ∀ (fn : Fn) (first cap : Array Value) (w : World), (Instr.makeFunc fn first cap).run Tryz.prog w = .ok (.func fn first cap) w := fun _ _ _ _ => rfl
  obtain ⟨A, c, rfl⟩ := hs.shape
  go_enter Tryz.func34, Tryz.ntmps34
  go_wp2_with fail
  refine (onone_any h).mono ?_
  rintro e wx ⟨rfl, hwx⟩
  obtain rfl := hwx.symm
  go_wp2_with fail
  refine (HCI.out _ (Below.refl _ _)).mono ?_
  rintro e w1 ⟨rfl, hb1⟩
  by_cases hbad : ∃ i ∈ L, itB i = false
  · rw [decide_eq_true hbad]
    have HB := Lib.hid (And.intro hb1 hbad)
    clear hb1 hbad HCI
    go_wp2
    go_ret2
    exact .inl ⟨rfl, HB.out.1, HB.out.2⟩
  rw [decide_eq_false hbad]
  have HGOOD := Lib.hid hbad
  clear hbad HCI
  go_wp2_with fail
  refine (ocopy_any (h.below hb1) (by omega)).mono ?_
  rintro e w2 ⟨s, rfl, ⟨p2, g2, v2, c1, c2, rfl, h2, hB⟩, hb2⟩
  have hbw2 := hb1.trans (hb2.mono hb1.size)
  have hlt2 := h2.ma.lt
  have hz1' := hb1.size
  have hsl0 : SeL w w2 w2 p2 g2 v2 V X c1 c2 ⟨K, T, [], false⟩ (.slice none 0 0) := ⟨h2, OwnD.nil, hbw2, Nat.le_refl _, ⟨by omega, hlt2.1⟩, ⟨by omega, hlt2.2⟩, ⟨h2.blk.lt, h2.cx.lt⟩⟩
  clear hb1 hb2 h2
  go_wp2_with fail
  go_loopw [7, 8, 24] (fun z7 z8 z wr => ∃ (k : Nat) (q : Sq), z = .int .i64 (k : Int) ∧ k ≤ L.length ∧ seeAll (V, X) ⟨K, T, [], false⟩ (L.take k) = q ∧ z7 = .bool q.c ∧ SeL w w2 wr p2 g2 v2 V X c1 c2 q z8) (fun _ _ z _ => L.length - (intOf z).toNat)
  case atStart => exact ⟨0, _, rfl, Nat.zero_le _, rfl, rfl, hsl0⟩
  case round =>
    obtain ⟨k, q, rfl, hk, hq, rfl, hsl⟩ := hrel
    by_cases hlt : k < L.length
    · have hlti : (k : Int) < (L.length : Int) := by omega
      obtain ⟨i, hi⟩ : ∃ i, L[k] = i := ⟨_, rfl⟩
      have hib : itB i = true := by
        have := HGOOD.out
        cases hc : itB i with
        | true => rfl
        | false => exact absurd ⟨i, by rw [← hi]; exact List.getElem_mem hlt, hc⟩ this
      have hdm : May i.d := by
        unfold itB at hib
        rw [Bool.and_eq_true, decide_eq_true_iff] at hib
        exact hib.1
      obtain ⟨b, o, e0, k0, k1, k2, k3, k4⟩ := (hs.below hsl.bel).item k hlt i hi
      subst e0
      have hq1 := seeAll_take (V, X) ⟨K, T, [], false⟩ L k hlt
      rw [hq, hi] at hq1
      have hql := seeAll_len (V, X) (L.take k) ⟨K, T, [], false⟩
      rw [hq, List.length_take] at hql
      simp only [List.length_nil] at hql
      have hqK : q.K.length ≤ 200000 := by omega
      have hqT : q.T.length ≤ 200000 := by omega
      have hqF : q.F.length ≤ 100000 := by omega
      have HQ1 := Lib.hid hq1
      have HIB := Lib.hid hib
      have hal : Below wr.heap.size wr (wr.alloc (.cells (itc i) 48)) := (Below.refl _ _).alloc (Nat.le_refl _) _
      have hbx9 := Blk.new wr 48 (itc i)
      have h9 := hsl.below hal
      have hgo := fun i e => (hsl.own.lt i e).2
      clear hq hq1 hql hi hib hs hsl hal
      go_upto_region 10 with fail
      change Code.wp _ _ _ _ (wr.alloc (.cells (itc i) 48))
      generalize wr.alloc (.cells (itc i) 48) = W9 at hbx9 h9 ⊢
      have hgs : w.heap.size ≤ w2.heap.size := hbw2.size
      generalize wr.heap.size = gb at hbx9 hgo ⊢
      have h9o := h9.os
      obtain ⟨r1, hr1⟩ : ∃ r, r = decide (i.d ∈ q.K.map Prod.fst) := ⟨_, rfl⟩
      obtain ⟨kt, kv, hkk⟩ : ∃ a b, keyAt q.K i.d = (a, b) := ⟨_, _, rfl⟩
      have L1 : ∀ W, Os W p2 g2 v2 V X c1 c2 q.K q.T → (Instr.lookup 81 (.map (some c1)) (.agg #[.int .i64 i.d.1, .int .u64 (i.d.2 : Int)]) true).run Tryz.prog W = .ok (.tuple #[.agg #[.string kt, .string kv], .bool r1]) W := fun W hW => by
        have := hW.ma.lookL (OkD.of_may hdm)
        rw [hkk, ← hr1] at this
        exact this
      clear hkk
      have HR1 := Lib.hid hr1
      clear hr1
      refine wp_region_held_drew (S := fun X => Below W9.drew.heap.size W9.drew X) hfo (Below.refl _ _) (fun hS0 => ?_)
      have hZ := h9o.below (show Below W9.heap.size W9 W9.drew from (Below.refl _ _).drew)
      have hBZ : Blk W9.drew gb 48 (itc i) := hbx9
      have hbZ : Below W9.heap.size W9 W9.drew := (Below.refl _ _).drew
      generalize W9.drew = Z0 at hS0 hZ hBZ hbZ ⊢
      refine' wpAnyH_take (i := 0) (oi := ⟨some 29, _, _, _, _, _⟩) (v := _) rfl (by kernel_rfl) (by kernel_rfl) (by kernel_rfl) (fun _ _ _ h => h) (Or.inl ⟨by rfl, ?y0a⟩) hS0 ?r0a
      case y0a => (intro w' hSw; go_simp; try rfl)
      try simp only [Act.put, List.setIfInBounds_toArray, List.set_cons_zero, List.set_cons_succ]
      refine' wpAnyH_take (i := 1) (oi := ⟨some 30, _, _, _, _, _⟩) (v := _) rfl (by kernel_rfl) (by kernel_rfl) (by kernel_rfl) (fun _ _ _ h => h) (Or.inl ⟨by rfl, ?y1a⟩) hS0 ?r1a
      case y1a => (intro w' hSw; go_simp; try rfl)
      try simp only [Act.put, List.setIfInBounds_toArray, List.set_cons_zero, List.set_cons_succ]
      refine' wpAnyH_take (i := 2) (oi := ⟨some 31, _, _, _, _, _⟩) (v := _) rfl (by kernel_rfl) (by kernel_rfl) (by kernel_rfl) (fun _ _ _ h => h) (Or.inl ⟨by rfl, ?y2a⟩) hS0 ?r2a
      case y2a => (intro w' hSw; go_simp; try rfl)
      try simp only [Act.put, List.setIfInBounds_toArray, List.set_cons_zero, List.set_cons_succ]
      refine' wpAnyH_take (i := 3) (oi := ⟨some 32, _, _, _, _, _⟩) (v := _) rfl (by kernel_rfl) (by kernel_rfl) (by kernel_rfl) (fun _ _ _ h => h) (Or.inl ⟨by rfl, ?y3a⟩) hS0 ?r3a
      case y3a =>
        intro w' hSw
        have hO := hZ.below hSw; have q1 := hO.c1; have q0 := hO.c0; have hD := hBZ.below hSw hBZ.lt; have d0 : w'.cell? ⟨gb, 0, none⟩ = some (.int .i64 i.d.1) := (by rw [hD.cell]; rfl); have d1 : w'.cell? ⟨gb, 1, none⟩ = some (.int .u64 (i.d.2 : Int)) := (by rw [hD.cell]; rfl); have q3 := L1 _ hO
        go_simp
        try rfl
      try simp only [Act.put, List.setIfInBounds_toArray, List.set_cons_zero, List.set_cons_succ]
      refine' wpAnyH_take (i := 4) (oi := ⟨some 33, _, _, _, _, _⟩) (v := _) rfl (by kernel_rfl) (by kernel_rfl) (by kernel_rfl) (fun _ _ _ h => h) (Or.inl ⟨by rfl, ?y4a⟩) hS0 ?r4a
      case y4a => (intro w' hSw; go_simp; try rfl)
      try simp only [Act.put, List.setIfInBounds_toArray, List.set_cons_zero, List.set_cons_succ]
      refine' wpAnyH_take (i := 5) (oi := ⟨some 34, _, _, _, _, _⟩) (v := _) rfl (by kernel_rfl) (by kernel_rfl) (by kernel_rfl) (fun _ _ _ h => h) (Or.inl ⟨by rfl, ?y5a⟩) hS0 ?r5a
      case y5a =>
        intro w' hSw
        have hO := hZ.below hSw; have q1 := hO.c1; have q0 := hO.c0; have hD := hBZ.below hSw hBZ.lt; have d0 : w'.cell? ⟨gb, 0, none⟩ = some (.int .i64 i.d.1) := (by rw [hD.cell]; rfl); have d1 : w'.cell? ⟨gb, 1, none⟩ = some (.int .u64 (i.d.2 : Int)) := (by rw [hD.cell]; rfl); have q3 := L1 _ hO
        go_simp
        try rfl
      try simp only [Act.put, List.setIfInBounds_toArray, List.set_cons_zero, List.set_cons_succ]
      refine' wpAnyH_take (i := 6) (oi := ⟨some 35, _, _, _, _, _⟩) (v := _) rfl (by kernel_rfl) (by kernel_rfl) (by kernel_rfl) (fun _ _ _ h => h) (Or.inl ⟨by rfl, ?y6a⟩) hS0 ?r6a
      case y6a =>
        intro w' hSw
        have hO := hZ.below hSw; have q1 := hO.c1; have q0 := hO.c0; have hD := hBZ.below hSw hBZ.lt; have d0 : w'.cell? ⟨gb, 0, none⟩ = some (.int .i64 i.d.1) := (by rw [hD.cell]; rfl); have d1 : w'.cell? ⟨gb, 1, none⟩ = some (.int .u64 (i.d.2 : Int)) := (by rw [hD.cell]; rfl); have q3 := L1 _ hO
        go_simp
        try rfl
      try simp only [Act.put, List.setIfInBounds_toArray, List.set_cons_zero, List.set_cons_succ]
      refine' wpAnyH_take (i := 7) (oi := ⟨some 28, _, _, _, _, _⟩) (v := _) rfl (by kernel_rfl) (by kernel_rfl) (by kernel_rfl) (fun _ _ _ h => h) (Or.inl ⟨by rfl, ?y7a⟩) hS0 ?r7a
      case y7a => (intro w' hSw; go_simp; try rfl)
      try simp only [Act.put, List.setIfInBounds_toArray, List.set_cons_zero, List.set_cons_succ]
      refine' wpAnyH_take (i := 8) (oi := ⟨some 36, _, _, _, _, _⟩) (v := _) rfl (by kernel_rfl) (by kernel_rfl) (by kernel_rfl) (fun _ _ _ h => h) (Or.inl ⟨by rfl, ?y8a⟩) hS0 ?r8a
      case y8a => (intro w' hSw; go_simp; try rfl)
      try simp only [Act.put, List.setIfInBounds_toArray, List.set_cons_zero, List.set_cons_succ]
      refine' wpAnyH_take (i := 9) (oi := ⟨some 37, _, _, _, _, _⟩) (v := _) rfl (by kernel_rfl) (by kernel_rfl) (by kernel_rfl) (fun _ _ _ h => h) (Or.inl ⟨by rfl, ?y9a⟩) hS0 ?r9a
      case y9a => (intro w' hSw; go_simp; try rfl)
      try simp only [Act.put, List.setIfInBounds_toArray, List.set_cons_zero, List.set_cons_succ]
      have hA : Below Z0.heap.size Z0 (Z0.alloc (.cells #[.string ⟨#[]⟩, .string ⟨#[]⟩] 39)) := (Below.refl _ _).alloc (Nat.le_refl _) _
      refine held_one (i := 10) (by kernel_rfl) rfl (fun Ka hK => ?_)
      go_simp
      refine hK.out _ _ hA (fun _ => ?_)
      clear hK Ka
      try simp only [Act.put, List.setIfInBounds_toArray, List.set_cons_zero, List.set_cons_succ]
      have hA2 : Below Z0.heap.size Z0 (Z0.alloc (.cells #[.string kt, .string kv] 39)) := (Below.refl _ _).alloc (Nat.le_refl _) _
      refine held_one (i := 11) (by kernel_rfl) rfl (fun Ka hK => ?_)
      go_simp
      refine hK.out _ _ hA2 (fun _ => ?_)
      clear hK Ka
      try simp only [Act.put, List.setIfInBounds_toArray, List.set_cons_zero, List.set_cons_succ]
      refine' wpAnyH_take (i := 12) (oi := ⟨some 12, _, _, _, _, _⟩) (v := _) rfl (by kernel_rfl) (by kernel_rfl) (by kernel_rfl) (fun _ _ _ h => h) (Or.inl ⟨by rfl, ?y12a⟩) hA2 ?r12a
      case y12a => (intro w' hSw; go_simp; try rfl)
      try simp only [Act.put, List.setIfInBounds_toArray, List.set_cons_zero, List.set_cons_succ]
      refine wpAnyH_done (by kernel_rfl) ?_ _
      have h10 := h9.below (hbZ.trans (hA2.mono hbZ.size))
      have hbx10 := hBZ.below hA2 hBZ.lt
      clear hA hA2 hS0 hZ hBZ hbZ h9 h9o hbx9 L1 k0 k1 k2 k3 k4
      go_upto_region 11 with fail
      generalize (Z0.alloc (.cells #[.string kt, .string kv] 39)) = W10 at h10 hbx10 ⊢
      generalize Z0.heap.size = gk at ⊢
      have h10o := h10.os
      obtain ⟨r2, hr2⟩ : ∃ r, r = decide (i.d ∈ q.T.map Prod.fst) := ⟨_, rfl⟩
      obtain ⟨hn, hhn⟩ : ∃ r, r = decide (In V X i.d) := ⟨_, rfl⟩
      obtain ⟨kp, hkp⟩ : ∃ r, r = (r1 || r2) := ⟨_, rfl⟩
      have HKP := Lib.hid (show ∀ W, Os W p2 g2 v2 V X c1 c2 q.K q.T → Calls Tryz.prog 73 #[.pointer (some ⟨p2, 0, none⟩), .agg #[.int .i64 i.d.1, .int .u64 (i.d.2 : Int)]] W fun e W' => e = .returned (.bool kp) ∧ Below W.heap.size W W' from fun W hW => by
        have := okeeps_any hW i.d (OkD.of_may hdm)
        rw [← HR1.out, ← hr2, ← hkp] at this
        exact this)
      have HHS := Lib.hid (show ∀ W, Os W p2 g2 v2 V X c1 c2 q.K q.T → Calls Tryz.prog 42 #[.pointer (some ⟨g2, 0, none⟩), .agg #[.int .i64 i.d.1, .int .u64 (i.d.2 : Int)]] W fun e W' => e = .returned (.bool hn) ∧ Below W.heap.size W W' from fun W hW => by
        refine (has_any g2 v2 V X i.d W hW.cx (by omega)).mono ?_
        rw [← hhn]
        rintro e W' ⟨rfl, hg⟩
        exact ⟨rfl, hg.below⟩)
      have HU := Lib.hid (show seeU (V, X) q i = (!kp && !hn) by unfold seeU; rw [← HR1.out, ← hr2, ← hkp, ← hhn])
      have HP := Lib.hid (show seeP (V, X) q i = ((!kp && !hn) || (r1 && i.g)) by unfold seeP; rw [HU.out, ← HR1.out])
      have HKK := Lib.hid hkp
      clear hr2 hhn hkp HR1
      cases kp with
      | true =>
        refine wp_region_held_drew (S := fun X => Below W10.drew.heap.size W10.drew X) hfo (Below.refl _ _) (fun hS0 => ?_)
        have hZ := h10o.below (show Below W10.heap.size W10 W10.drew from (Below.refl _ _).drew)
        have hBZ : Blk W10.drew gb 48 (itc i) := hbx10
        have hbZ : Below W10.heap.size W10 W10.drew := (Below.refl _ _).drew
        generalize W10.drew = Z0 at hS0 hZ hBZ hbZ ⊢
        refine' wpAnyH_take (i := 0) (oi := ⟨some 38, _, _, _, _, _⟩) (v := _) rfl (by kernel_rfl) (by kernel_rfl) (by kernel_rfl) (fun _ _ _ h => h) (Or.inl ⟨by rfl, ?y0bt⟩) hS0 ?r0bt
        case y0bt => (intro w' hSw; go_simp; try rfl)
        try simp only [Act.put, List.setIfInBounds_toArray, List.set_cons_zero, List.set_cons_succ]
        refine' wpAnyH_take (i := 1) (oi := ⟨some 39, _, _, _, _, _⟩) (v := _) rfl (by kernel_rfl) (by kernel_rfl) (by kernel_rfl) (fun _ _ _ h => h) (Or.inl ⟨by rfl, ?y1bt⟩) hS0 ?r1bt
        case y1bt => (intro w' hSw; go_simp; try rfl)
        try simp only [Act.put, List.setIfInBounds_toArray, List.set_cons_zero, List.set_cons_succ]
        refine' wpAnyH_take (i := 2) (oi := ⟨some 40, _, _, _, _, _⟩) (v := _) rfl (by kernel_rfl) (by kernel_rfl) (by kernel_rfl) (fun _ _ _ h => h) (Or.inl ⟨by rfl, ?y2bt⟩) hS0 ?r2bt
        case y2bt =>
          intro w' hSw
          have hO := hZ.below hSw; have q1 := hO.c1; have q0 := hO.c0; have hD := hBZ.below hSw hBZ.lt; have d0 : w'.cell? ⟨gb, 0, none⟩ = some (.int .i64 i.d.1) := (by rw [hD.cell]; rfl); have d1 : w'.cell? ⟨gb, 1, none⟩ = some (.int .u64 (i.d.2 : Int)) := (by rw [hD.cell]; rfl)
          go_simp
          try rfl
        try simp only [Act.put, List.setIfInBounds_toArray, List.set_cons_zero, List.set_cons_succ]
        refine held_one (i := 3) (by kernel_rfl) rfl (fun Kbt hK => ?_)
        go_simp
        refine (HKP.out Z0 hZ).mono ?_
        rintro e Z1 ⟨rfl, hq1⟩
        have hS1 := hS0.trans (hq1.mono hS0.size)
        refine hK.out _ _ hS1 (fun _ => ?_)
        clear hK Kbt
        try simp only [Act.put, List.setIfInBounds_toArray, List.set_cons_zero, List.set_cons_succ]
        refine' wpAnyH_take (i := 4) (oi := ⟨some 42, _, _, _, _, _⟩) (v := _) rfl (by kernel_rfl) (by kernel_rfl) (by kernel_rfl) (fun _ _ _ h => h) (Or.inl ⟨by rfl, ?y4bt⟩) hS1 ?r4bt
        case y4bt => (intro w' hSw; go_simp; try rfl)
        try simp only [Act.put, List.setIfInBounds_toArray, List.set_cons_zero, List.set_cons_succ]
        refine' wpAnyH_take (i := 5) (oi := ⟨some 43, _, _, _, _, _⟩) (v := _) rfl (by kernel_rfl) (by kernel_rfl) (by kernel_rfl) (fun _ _ _ h => h) (Or.inl ⟨by rfl, ?y5bt⟩) hS1 ?r5bt
        case y5bt => (intro w' hSw; go_simp; try rfl)
        try simp only [Act.put, List.setIfInBounds_toArray, List.set_cons_zero, List.set_cons_succ]
        refine' wpAnyH_take (i := 6) (oi := ⟨some 44, _, _, _, _, _⟩) (v := undef) rfl (by kernel_rfl) (by kernel_rfl) (by kernel_rfl) (fun _ _ _ h => h) (Or.inr ⟨by rfl, rfl⟩) hS1 ?r6bt
        try simp only [Act.put, List.setIfInBounds_toArray, List.set_cons_zero, List.set_cons_succ]
        refine' wpAnyH_take (i := 7) (oi := ⟨some 45, _, _, _, _, _⟩) (v := undef) rfl (by kernel_rfl) (by kernel_rfl) (by kernel_rfl) (fun _ _ _ h => h) (Or.inr ⟨by rfl, rfl⟩) hS1 ?r7bt
        try simp only [Act.put, List.setIfInBounds_toArray, List.set_cons_zero, List.set_cons_succ]
        refine' wpAnyH_take (i := 8) (oi := ⟨some 46, _, _, _, _, _⟩) (v := undef) rfl (by kernel_rfl) (by kernel_rfl) (by kernel_rfl) (fun _ _ _ h => h) (Or.inr ⟨by rfl, rfl⟩) hS1 ?r8bt
        try simp only [Act.put, List.setIfInBounds_toArray, List.set_cons_zero, List.set_cons_succ]
        refine' wpAnyH_take (i := 9) (oi := ⟨some 47, _, _, _, _, _⟩) (v := undef) rfl (by kernel_rfl) (by kernel_rfl) (by kernel_rfl) (fun _ _ _ h => h) (Or.inr ⟨by rfl, rfl⟩) hS1 ?r9bt
        try simp only [Act.put, List.setIfInBounds_toArray, List.set_cons_zero, List.set_cons_succ]
        refine' wpAnyH_take (i := 10) (oi := ⟨some 48, _, _, _, _, _⟩) (v := undef) rfl (by kernel_rfl) (by kernel_rfl) (by kernel_rfl) (fun _ _ _ h => h) (Or.inr ⟨by rfl, rfl⟩) hS1 ?r10bt
        try simp only [Act.put, List.setIfInBounds_toArray, List.set_cons_zero, List.set_cons_succ]
        refine' wpAnyH_take (i := 11) (oi := ⟨some 49, _, _, _, _, _⟩) (v := undef) rfl (by kernel_rfl) (by kernel_rfl) (by kernel_rfl) (fun _ _ _ h => h) (Or.inr ⟨by rfl, rfl⟩) hS1 ?r11bt
        try simp only [Act.put, List.setIfInBounds_toArray, List.set_cons_zero, List.set_cons_succ]
        refine' wpAnyH_take (i := 12) (oi := ⟨some 50, _, _, _, _, _⟩) (v := undef) rfl (by kernel_rfl) (by kernel_rfl) (by kernel_rfl) (fun _ _ _ h => h) (Or.inr ⟨by rfl, rfl⟩) hS1 ?r12bt
        try simp only [Act.put, List.setIfInBounds_toArray, List.set_cons_zero, List.set_cons_succ]
        refine' wpAnyH_take (i := 13) (oi := ⟨some 51, _, _, _, _, _⟩) (v := undef) rfl (by kernel_rfl) (by kernel_rfl) (by kernel_rfl) (fun _ _ _ h => h) (Or.inr ⟨by rfl, rfl⟩) hS1 ?r13bt
        try simp only [Act.put, List.setIfInBounds_toArray, List.set_cons_zero, List.set_cons_succ]
        refine' wpAnyH_take (i := 14) (oi := ⟨some 52, _, _, _, _, _⟩) (v := _) rfl (by kernel_rfl) (by kernel_rfl) (by kernel_rfl) (fun _ _ _ h => h) (Or.inl ⟨by rfl, ?y14bt⟩) hS1 ?r14bt
        case y14bt => (intro w' hSw; go_simp; try rfl)
        try simp only [Act.put, List.setIfInBounds_toArray, List.set_cons_zero, List.set_cons_succ]
        refine' wpAnyH_take (i := 15) (oi := ⟨some 13, _, _, _, _, _⟩) (v := _) rfl (by kernel_rfl) (by kernel_rfl) (by kernel_rfl) (fun _ _ _ h => h) (Or.inl ⟨by rfl, ?y15bt⟩) hS1 ?r15bt
        case y15bt => (intro w' hSw; go_simp; try rfl)
        try simp only [Act.put, List.setIfInBounds_toArray, List.set_cons_zero, List.set_cons_succ]
        refine wpAnyH_done (by kernel_rfl) ?_ _
        have h11 := h10.below (hbZ.trans (hS1.mono hbZ.size))
        have hbx11 := hBZ.below hS1 hBZ.lt
        clear hS0 hS1 hq1 hZ hBZ hbZ h10 hbx10 h10o
        cases r1 with
        | false =>
          have HS := Lib.hid h11
          have HE := Lib.hid (show stepS (V, X) q i = q by unfold stepS; rw [if_neg (by rw [HP.out]; simp)])
          clear h11 hbx11
          go_wp2_with fail
          exact ⟨⟨k + 1, q, by go_num, hlt, by rw [HQ1.out, HE.out], rfl, HS.out⟩, by simp [intOf]; omega⟩
        | true =>
          cases hg : i.g with
          | false =>
            have q4 : Z1.cell? ⟨gb, 4, none⟩ = some (.bool false) := by rw [hbx11.cell, ← hg]; rfl
            have HS := Lib.hid h11
            have HE := Lib.hid (show stepS (V, X) q i = q by unfold stepS; rw [if_neg (by rw [HP.out, hg]; simp)])
            clear h11 hbx11
            go_wp2_with fail
            exact ⟨⟨k + 1, q, by go_num, hlt, by rw [HQ1.out, HE.out], rfl, HS.out⟩, by simp [intOf]; omega⟩
          | true =>
            have q0 : Z1.cell? ⟨gb, 0, none⟩ = some (.int .i64 i.d.1) := by rw [hbx11.cell]; rfl
            have q1 : Z1.cell? ⟨gb, 1, none⟩ = some (.int .u64 (i.d.2 : Int)) := by rw [hbx11.cell]; rfl
            have q2 : Z1.cell? ⟨gb, 2, none⟩ = some (.string i.t) := by rw [hbx11.cell]; rfl
            have q3 : Z1.cell? ⟨gb, 3, none⟩ = some (.string i.v) := by rw [hbx11.cell]; rfl
            have q4 : Z1.cell? ⟨gb, 4, none⟩ = some (.bool true) := by rw [hbx11.cell]; rw [← hg]; rfl
            have HPUT := Lib.hid (show Calls Tryz.prog 74 #[.pointer (some ⟨p2, 0, none⟩), .agg #[.int .i64 i.d.1, .int .u64 (i.d.2 : Int), .string i.t, .string i.v, .bool true]] Z1 fun e w' => e = .returned (.tuple #[]) ∧ Os w' p2 g2 v2 V X c1 c2 (seeK i q.K) (seeT i q.T) ∧ Keep (fun j => j = c1 ∨ j = c2) Z1 w' from by
              have := oput_any h11.os i (OkD.of_may hdm) (by omega) (by omega)
              rw [show itc i = #[.int .i64 i.d.1, .int .u64 (i.d.2 : Int), .string i.t, .string i.v, .bool true] by unfold itc; rw [hg]] at this
              exact this)
            have HS := Lib.hid h11
            have HE := Lib.hid (show stepS (V, X) q i = ⟨seeK i q.K, seeT i q.T, q.F, true⟩ by unfold stepS; rw [if_pos (by rw [HP.out, hg]; simp), HU.out]; simp)
            clear h11 hbx11
            go_wp2_with fail
            refine HPUT.out.mono ?_
            rintro e W12 ⟨rfl, ho12, hk12⟩
            have HS2 := Lib.hid (HS.out.put ho12 hk12)
            clear HS HPUT ho12 hk12
            go_wp2_with fail
            exact ⟨⟨k + 1, _, by go_num, hlt, by rw [HQ1.out, HE.out], rfl, HS2.out⟩, by simp [intOf]; omega⟩
      | false =>
        refine wp_region_held_drew (S := fun X => Below W10.drew.heap.size W10.drew X) hfo (Below.refl _ _) (fun hS0 => ?_)
        have hZ := h10o.below (show Below W10.heap.size W10 W10.drew from (Below.refl _ _).drew)
        have hBZ : Blk W10.drew gb 48 (itc i) := hbx10
        have hbZ : Below W10.heap.size W10 W10.drew := (Below.refl _ _).drew
        generalize W10.drew = Z0 at hS0 hZ hBZ hbZ ⊢
        refine' wpAnyH_take (i := 0) (oi := ⟨some 38, _, _, _, _, _⟩) (v := _) rfl (by kernel_rfl) (by kernel_rfl) (by kernel_rfl) (fun _ _ _ h => h) (Or.inl ⟨by rfl, ?y0bf⟩) hS0 ?r0bf
        case y0bf => (intro w' hSw; go_simp; try rfl)
        try simp only [Act.put, List.setIfInBounds_toArray, List.set_cons_zero, List.set_cons_succ]
        refine' wpAnyH_take (i := 1) (oi := ⟨some 39, _, _, _, _, _⟩) (v := _) rfl (by kernel_rfl) (by kernel_rfl) (by kernel_rfl) (fun _ _ _ h => h) (Or.inl ⟨by rfl, ?y1bf⟩) hS0 ?r1bf
        case y1bf => (intro w' hSw; go_simp; try rfl)
        try simp only [Act.put, List.setIfInBounds_toArray, List.set_cons_zero, List.set_cons_succ]
        refine' wpAnyH_take (i := 2) (oi := ⟨some 40, _, _, _, _, _⟩) (v := _) rfl (by kernel_rfl) (by kernel_rfl) (by kernel_rfl) (fun _ _ _ h => h) (Or.inl ⟨by rfl, ?y2bf⟩) hS0 ?r2bf
        case y2bf =>
          intro w' hSw
          have hO := hZ.below hSw; have q1 := hO.c1; have q0 := hO.c0; have hD := hBZ.below hSw hBZ.lt; have d0 : w'.cell? ⟨gb, 0, none⟩ = some (.int .i64 i.d.1) := (by rw [hD.cell]; rfl); have d1 : w'.cell? ⟨gb, 1, none⟩ = some (.int .u64 (i.d.2 : Int)) := (by rw [hD.cell]; rfl)
          go_simp
          try rfl
        try simp only [Act.put, List.setIfInBounds_toArray, List.set_cons_zero, List.set_cons_succ]
        refine held_one (i := 3) (by kernel_rfl) rfl (fun Kbf hK => ?_)
        go_simp
        refine (HKP.out Z0 hZ).mono ?_
        rintro e Z1 ⟨rfl, hq1⟩
        have hS1 := hS0.trans (hq1.mono hS0.size)
        refine hK.out _ _ hS1 (fun _ => ?_)
        clear hK Kbf
        try simp only [Act.put, List.setIfInBounds_toArray, List.set_cons_zero, List.set_cons_succ]
        refine' wpAnyH_take (i := 4) (oi := ⟨some 42, _, _, _, _, _⟩) (v := _) rfl (by kernel_rfl) (by kernel_rfl) (by kernel_rfl) (fun _ _ _ h => h) (Or.inl ⟨by rfl, ?y4bf⟩) hS1 ?r4bf
        case y4bf => (intro w' hSw; go_simp; try rfl)
        try simp only [Act.put, List.setIfInBounds_toArray, List.set_cons_zero, List.set_cons_succ]
        refine' wpAnyH_take (i := 5) (oi := ⟨some 43, _, _, _, _, _⟩) (v := _) rfl (by kernel_rfl) (by kernel_rfl) (by kernel_rfl) (fun _ _ _ h => h) (Or.inl ⟨by rfl, ?y5bf⟩) hS1 ?r5bf
        case y5bf => (intro w' hSw; go_simp; try rfl)
        try simp only [Act.put, List.setIfInBounds_toArray, List.set_cons_zero, List.set_cons_succ]
        refine' wpAnyH_take (i := 6) (oi := ⟨some 44, _, _, _, _, _⟩) (v := _) rfl (by kernel_rfl) (by kernel_rfl) (by kernel_rfl) (fun _ _ _ h => h) (Or.inl ⟨by rfl, ?y6bf⟩) hS1 ?r6bf
        case y6bf => (intro w' hSw; go_simp; try rfl)
        try simp only [Act.put, List.setIfInBounds_toArray, List.set_cons_zero, List.set_cons_succ]
        refine' wpAnyH_take (i := 7) (oi := ⟨some 45, _, _, _, _, _⟩) (v := _) rfl (by kernel_rfl) (by kernel_rfl) (by kernel_rfl) (fun _ _ _ h => h) (Or.inl ⟨by rfl, ?y7bf⟩) hS1 ?r7bf
        case y7bf => (intro w' hSw; go_simp; try rfl)
        try simp only [Act.put, List.setIfInBounds_toArray, List.set_cons_zero, List.set_cons_succ]
        refine' wpAnyH_take (i := 8) (oi := ⟨some 46, _, _, _, _, _⟩) (v := _) rfl (by kernel_rfl) (by kernel_rfl) (by kernel_rfl) (fun _ _ _ h => h) (Or.inl ⟨by rfl, ?y8bf⟩) hS1 ?r8bf
        case y8bf => (intro w' hSw; go_simp; try rfl)
        try simp only [Act.put, List.setIfInBounds_toArray, List.set_cons_zero, List.set_cons_succ]
        refine' wpAnyH_take (i := 9) (oi := ⟨some 47, _, _, _, _, _⟩) (v := _) rfl (by kernel_rfl) (by kernel_rfl) (by kernel_rfl) (fun _ _ _ h => h) (Or.inl ⟨by rfl, ?y9bf⟩) hS1 ?r9bf
        case y9bf =>
          intro w' hSw
          have hO := hZ.below hSw; have q1 := hO.c1; have q0 := hO.c0; have hD := hBZ.below hSw hBZ.lt; have d0 : w'.cell? ⟨gb, 0, none⟩ = some (.int .i64 i.d.1) := (by rw [hD.cell]; rfl); have d1 : w'.cell? ⟨gb, 1, none⟩ = some (.int .u64 (i.d.2 : Int)) := (by rw [hD.cell]; rfl)
          go_simp
          try rfl
        try simp only [Act.put, List.setIfInBounds_toArray, List.set_cons_zero, List.set_cons_succ]
        refine' wpAnyH_take (i := 10) (oi := ⟨some 48, _, _, _, _, _⟩) (v := _) rfl (by kernel_rfl) (by kernel_rfl) (by kernel_rfl) (fun _ _ _ h => h) (Or.inl ⟨by rfl, ?y10bf⟩) hS1 ?r10bf
        case y10bf => (intro w' hSw; go_simp; try rfl)
        try simp only [Act.put, List.setIfInBounds_toArray, List.set_cons_zero, List.set_cons_succ]
        refine' wpAnyH_take (i := 11) (oi := ⟨some 49, _, _, _, _, _⟩) (v := _) rfl (by kernel_rfl) (by kernel_rfl) (by kernel_rfl) (fun _ _ _ h => h) (Or.inl ⟨by rfl, ?y11bf⟩) hS1 ?r11bf
        case y11bf =>
          intro w' hSw
          have hO := hZ.below hSw; have q1 := hO.c1; have q0 := hO.c0; have hD := hBZ.below hSw hBZ.lt; have d0 : w'.cell? ⟨gb, 0, none⟩ = some (.int .i64 i.d.1) := (by rw [hD.cell]; rfl); have d1 : w'.cell? ⟨gb, 1, none⟩ = some (.int .u64 (i.d.2 : Int)) := (by rw [hD.cell]; rfl)
          go_simp
          try rfl
        try simp only [Act.put, List.setIfInBounds_toArray, List.set_cons_zero, List.set_cons_succ]
        refine held_one (i := 12) (by kernel_rfl) rfl (fun Kbf hK => ?_)
        go_simp
        refine (HHS.out Z1 (hZ.below hS1)).mono ?_
        rintro e Z2 ⟨rfl, hq2⟩
        have hS2 := hS1.trans (hq2.mono hS1.size)
        refine hK.out _ _ hS2 (fun _ => ?_)
        clear hK Kbf
        try simp only [Act.put, List.setIfInBounds_toArray, List.set_cons_zero, List.set_cons_succ]
        refine' wpAnyH_take (i := 13) (oi := ⟨some 51, _, _, _, _, _⟩) (v := _) rfl (by kernel_rfl) (by kernel_rfl) (by kernel_rfl) (fun _ _ _ h => h) (Or.inl ⟨by rfl, ?y13bf⟩) hS2 ?r13bf
        case y13bf => (intro w' hSw; go_simp; try rfl)
        try simp only [Act.put, List.setIfInBounds_toArray, List.set_cons_zero, List.set_cons_succ]
        refine' wpAnyH_take (i := 14) (oi := ⟨some 52, _, _, _, _, _⟩) (v := _) rfl (by kernel_rfl) (by kernel_rfl) (by kernel_rfl) (fun _ _ _ h => h) (Or.inl ⟨by rfl, ?y14bf⟩) hS2 ?r14bf
        case y14bf => (intro w' hSw; go_simp; try rfl)
        try simp only [Act.put, List.setIfInBounds_toArray, List.set_cons_zero, List.set_cons_succ]
        refine' wpAnyH_take (i := 15) (oi := ⟨some 13, _, _, _, _, _⟩) (v := _) rfl (by kernel_rfl) (by kernel_rfl) (by kernel_rfl) (fun _ _ _ h => h) (Or.inl ⟨by rfl, ?y15bf⟩) hS2 ?r15bf
        case y15bf => (intro w' hSw; go_simp; try rfl)
        try simp only [Act.put, List.setIfInBounds_toArray, List.set_cons_zero, List.set_cons_succ]
        refine wpAnyH_done (by kernel_rfl) ?_ _
        have h11 := h10.below (hbZ.trans (hS2.mono hbZ.size))
        have hbx11 := hBZ.below hS2 hBZ.lt
        clear hS0 hS1 hq1 hq2 hS2 hZ hBZ hbZ h10 hbx10 h10o
        cases hn with
        | true =>
          have hr1 : r1 = false := by
            cases r1 with
            | false => rfl
            | true => exact absurd HKK.out (by simp)
          subst hr1
          have HS := Lib.hid h11
          have HE := Lib.hid (show stepS (V, X) q i = q by unfold stepS; rw [if_neg (by rw [HP.out]; simp)])
          clear h11 hbx11
          go_wp2_with fail
          exact ⟨⟨k + 1, q, by go_num, hlt, by rw [HQ1.out, HE.out], rfl, HS.out⟩, by simp [intOf]; omega⟩
        | false =>
          have q0 : Z2.cell? ⟨gb, 0, none⟩ = some (.int .i64 i.d.1) := by rw [hbx11.cell]; rfl
          have q1 : Z2.cell? ⟨gb, 1, none⟩ = some (.int .u64 (i.d.2 : Int)) := by rw [hbx11.cell]; rfl
          have hal2 : Below Z2.heap.size Z2 (Z2.alloc (.cells #[.int .i64 i.d.1, .int .u64 (i.d.2 : Int)] 41)) := (Below.refl _ _).alloc (Nat.le_refl _) _
          have h12 := h11.below hal2
          have hbx12 := hbx11.below hal2 hbx11.lt
          obtain ⟨A8, n8, c8, rfl⟩ := h11.own.shape
          have ho3 := h12.own
          have hs1 : Sd (Z2.alloc (.cells #[.int .i64 i.d.1, .int .u64 (i.d.2 : Int)] 41)) (.slice (some ⟨Z2.heap.size, 0, none⟩) 1 1) [i.d] := sd_one (Blk.new _ _ _) (Nat.le_refl _)
          have hlen : q.F.length + [i.d].length ≤ 1000000 := by simp; omega
          have hbase := h12.siz
          have HS := Lib.hid (And.intro h12 hbx12)
          have HE := Lib.hid (show stepS (V, X) q i = ⟨seeK i q.K, seeT i q.T, q.F ++ [i.d], true⟩ by unfold stepS; rw [if_pos (by rw [HP.out]; simp), HU.out]; simp)
          clear h11 hbx11 h12 hbx12
          go_wp2_with (at_builtin; refine wpList_append_dots _ rfl (.tmp 54) (.tmp 57) 30 rfl w2.heap.size i0 Tryz.underlying30 hi0 hz0 hz1 hz2 _ q.F rfl ho3 _ [i.d] rfl hs1 hlen hbase ?_)
          intro v' W5 ho6 hgr _ _
          have h13 := HS.out.1.app ho6 hgr hgs
          have hbx13 := HS.out.2.grownP hgr (fun e => by have := hgo _ e.symm; omega)
          have p0 : W5.cell? ⟨gb, 0, none⟩ = some (.int .i64 i.d.1) := by rw [hbx13.cell]; rfl
          have p1 : W5.cell? ⟨gb, 1, none⟩ = some (.int .u64 (i.d.2 : Int)) := by rw [hbx13.cell]; rfl
          have p2_ : W5.cell? ⟨gb, 2, none⟩ = some (.string i.t) := by rw [hbx13.cell]; rfl
          have p3 : W5.cell? ⟨gb, 3, none⟩ = some (.string i.v) := by rw [hbx13.cell]; rfl
          have p4 : W5.cell? ⟨gb, 4, none⟩ = some (.bool i.g) := by rw [hbx13.cell]; rfl
          have HPUT := Lib.hid (oput_any h13.os i (OkD.of_may hdm) (by show q.K.length < _; omega) (by show q.T.length < _; omega))
          have HS3 := Lib.hid h13
          clear HS h13 hbx13 hs1 ho3 ho6 hgr q0 q1
          go_wp2_with fail
          refine HPUT.out.mono ?_
          rintro e W12 ⟨rfl, ho12, hk12⟩
          have HS2 := Lib.hid (HS3.out.put ho12 hk12)
          clear HS3 HPUT ho12 hk12
          go_wp2_with fail
          exact ⟨⟨k + 1, _, by go_num, hlt, by rw [HQ1.out, HE.out]; rfl, rfl, HS2.out⟩, by simp [intOf]; omega⟩
    · obtain rfl : k = L.length := by omega
      have hlti : ¬ ((L.length : Int) < (L.length : Int)) := by omega
      rw [List.take_length] at hq
      have hql := seeAll_len (V, X) L ⟨K, T, [], false⟩
      rw [hq] at hql
      simp only [List.length_nil] at hql
      have hqK : q.K.length ≤ 1000000000 := by omega
      have hqT : q.T.length ≤ 1000000000 := by omega
      have hqF : q.F.length ≤ 100000 := by omega
      have hall : ∀ i ∈ L, itB i = true := fun i hi => by
        cases hc : itB i with
        | true => rfl
        | false => exact absurd ⟨i, hi, hc⟩ HGOOD.out
      have HQ := Lib.hid (And.intro hall hq)
      have HT := Lib.hid (otoo_any hsl.os hqK hqT)
      have HS := Lib.hid hsl
      have HP := Lib.hid h
      obtain ⟨tm, htm⟩ : ∃ r, r = decide (1024 < q.K.length ∨ 4096 < q.K.length + q.T.length) := ⟨_, rfl⟩
      rw [← htm] at HT
      have HTM := Lib.hid htm
      clear hsl hq hql hall htm hs hsl0 h
      go_wp2_with fail
      refine HT.out.mono ?_
      rintro e W4 ⟨rfl, hg4⟩
      have HS4 := Lib.hid (HS.out.below hg4.below)
      clear HT HS hg4
      cases tm with
      | true =>
        go_wp2
        go_ret2
        refine .inr ⟨HQ.out.1, q, HQ.out.2, .inl ⟨rfl, HS4.out.bel, .inl ?_⟩⟩
        have := HTM.out
        rwa [eq_comm, decide_eq_true_iff] at this
      | false =>
        have e0 := HS4.out.os.c0
        have HA := Lib.hid (oaddAll_any g2 v2 (V, X) w2.heap.size u8 q.F W4 HS4.out.os.cx hX HS4.out.own hqF (fun i e hf => by have := (HS4.out.own.lt i e).1; have := HS4.out.low.2 i hf; omega))
        go_wp2_with fail
        refine HA.out.mono ?_
        rintro e W5 ⟨M, cc, rfl, hord, hperm, hk5, hy, hn⟩
        clear HA
        have hbel5 := Keep.below HS4.out.bel hk5 HS4.out.bel.size (by
          rintro i (hi | hi)
          · have := hB.2.2.2 i hi; omega
          · have := (HS4.out.own.lt i hi).1; omega)
        have hof : ∀ i, i < w2.heap.size → ¬ Foot g2 v2 i → ¬ (Foot g2 v2 i ∨ u8.ownBlock = some i) := fun i hi hf => by
          rintro (h | h)
          · exact hf h
          · have := (HS4.out.own.lt i h).1; omega
        have hbl5 := HS4.out.os.blk.kept hk5 (hof _ HS4.out.low.1 HS4.out.os.pfar)
        have hm5 : Ma W5 c1 c2 q.K q.T := ⟨ownsMap_kept HS4.out.os.ma.live hk5 (hof _ HS4.out.b1.2 (fun h => (HS4.out.os.far _ h).1 rfl)), ownsMap_kept HS4.out.os.ma.tomb hk5 (hof _ HS4.out.b2.2 (fun h => (HS4.out.os.far _ h).2 rfl)), HS4.out.os.ma.okl, HS4.out.os.ma.okt, HS4.out.os.ma.ne⟩
        by_cases hcc : cc = 0
        · subst hcc
          obtain ⟨R, u, hpR, hcx5, hR5, hf5⟩ := hy rfl
          have hp5 := HP.out.below hbel5
          have r0 : W5.cell? ⟨p2, 0, none⟩ = some (.pointer (some ⟨g2, 0, none⟩)) := by rw [hbl5.cell]; rfl
          have r1 : W5.cell? ⟨p2, 1, none⟩ = some (.map (some c1)) := by rw [hbl5.cell]; rfl
          have r2 : W5.cell? ⟨p2, 2, none⟩ = some (.map (some c2)) := by rw [hbl5.cell]; rfl
          have s0 := hp5.c0
          have s1 := hp5.c1
          have s2 := hp5.c2
          have hth : W5.there p 0 (osc g2 c1 c2).size := hp5.blk.there
          have hinf : (Tryz.prog.info? 84).map (·.size) = some (osc g2 c1 c2).size := by show _ = some 3; kernel_rfl
          have hone : (osc g2 c1 c2).all (·.oneCell') = true := by unfold osc; exact all_oneCell_toArray (cs := [.pointer (some ⟨g2, 0, none⟩), .map (some c1), .map (some c2)]) (by simp [Value.oneCell'])
          have hzp : p < w.heap.size := HP.out.blk.lt
          have hz4 : w2.heap.size ≤ W4.heap.size := HS4.out.siz
          have hgs2 : w.heap.size ≤ w2.heap.size := hbw2.size
          have hk6 : Keep (fun i => i = p) W5 (W5.setCells p 0 (osc g2 c1 c2).toList) := .of_grown (grown_setCells _ _ _ _) (fun k e => (Option.some.inj e).symm)
          have hff : ∀ i, Foot g2 u i → w.heap.size ≤ i := fun i hi => by
            rcases hf5 i hi with h | h
            · have := hB.2.2.2 i h; omega
            · omega
          have hos6 : Os (W5.setCells p 0 (osc g2 c1 c2).toList) p g2 u R.1 R.2 c1 c2 q.K q.T := by
            have hb1 := HS4.out.b1
            have hb2 := HS4.out.b2
            refine ⟨hp5.blk.setRow rfl, hcx5.kept hk6 (fun i hi e => by have := hff i hi; omega), ⟨ownsMap_kept hm5.live hk6 (by omega), ownsMap_kept hm5.tomb hk6 (by omega), hm5.okl, hm5.okt, hm5.ne⟩, fun i hi => ?_, by omega⟩
            rcases hf5 i hi with h | h
            · exact HS4.out.os.far i h
            · omega
          have HZ := Lib.hid (And.intro hos6 (And.intro hff hbel5))
          have HK := Lib.hid ((Keep.of_below (S := fun i => i = p) (hbel5 : Below w.heap.size w W5)).trans hk6 (fun _ h => h) (fun _ _ h => h))
          have HM := Lib.hid (And.intro hord (And.intro hperm (And.intro hpR hR5)))
          have HB2 := Lib.hid (And.intro HS4.out.b1.1 HS4.out.b2.1)
          clear hy hn hos6 hff hk6 hm5 hbl5 hk5 hof hcx5 hp5 hord hperm hpR
          go_wp2_with (refine wpList_store_mid rfl 84 _ _ rfl p 0 (osc g2 c1 c2) rfl rfl hth hinf hone ?_)
          go_ret2
          refine .inr ⟨HQ.out.1, q, HQ.out.2, .inr ⟨?_, M, R, HM.out.1, HM.out.2.1, HM.out.2.2.1, HM.out.2.2.2, rfl, HK.out, g2, u, c1, c2, HZ.out.1, HZ.out.2.1, HB2.out.1, HB2.out.2⟩⟩
          have := HTM.out
          intro hh
          rw [decide_eq_true hh] at this
          cases this
        · have HZ := Lib.hid (And.intro (hn hcc) hbel5)
          have HM := Lib.hid (And.intro hord hperm)
          have hcb : (cc != 0) = true := by simpa using hcc
          clear hy hn hcc hbl5 hm5 hk5 hof
          go_wp2
          go_ret2
          exact .inr ⟨HQ.out.1, q, HQ.out.2, .inl ⟨rfl, HZ.out.2, .inr ⟨M, HM.out.1, HM.out.2, HZ.out.1⟩⟩⟩
end
end Go.Proofs.YtldfaaahmpncbaaGreat

namespace Go.Proofs.YtldfaaahmpncbaaGreat
open Go.RowKit Go.Maps
open CtxM
set_option linter.unusedVariables false
set_option linter.unusedSimpArgs false
set_option maxRecDepth 20000

/-- What See of these items, over a set at p, answers and leaves. -/
def SeeP (w w' : World) (p : Nat) (V : List Nat) (X : List Dt) (K : Kl) (T : Tl) (L : List It) (b : Bool) (c : Int) : Prop :=
  (b = false ∧ c = 2 ∧ Below w.heap.size w w' ∧ ∃ i ∈ L, itB i = false) ∨
  ((∀ i ∈ L, itB i = true) ∧ ∃ q, seeAll (V, X) ⟨K, T, [], false⟩ L = q ∧
    ((b = false ∧ c = 5 ∧ Below w.heap.size w w' ∧ ((1024 < q.K.length ∨ 4096 < q.K.length + q.T.length) ∨ ∃ M, Ord M ∧ M.Perm q.F ∧ passB (some (passA (V, X) M).1) (passA (V, X) M).2 = none)) ∨
     (¬ (1024 < q.K.length ∨ 4096 < q.K.length + q.T.length) ∧ ∃ M R, Ord M ∧ M.Perm q.F ∧ passB (some (passA (V, X) M).1) (passA (V, X) M).2 = some R ∧ R.2.length ≤ 4096 ∧ b = q.c ∧ c = 0 ∧
       Keep (fun i => i = p) w w' ∧ ∃ g' v' c1 c2, Os w' p g' v' R.1 R.2 c1 c2 q.K q.T ∧ (∀ i, Foot g' v' i → w.heap.size ≤ i) ∧ w.heap.size ≤ c1 ∧ w.heap.size ≤ c2)))
theorem SeeP.base {w0 w w' : World} {p : Nat} {V : List Nat} {X : List Dt} {K : Kl} {T : Tl} {L : List It} {b : Bool} {c : Int} (h : SeeP w w' p V X K T L b c) (hb : Below w0.heap.size w0 w) : SeeP w0 w' p V X K T L b c := by
  have hz := hb.size
  rcases h with ⟨h1, h2, h3, h4⟩ | ⟨h1, q, h2, ⟨h3, h4, h5, h6⟩ | ⟨h3, M, R, h4, h5, h6, h7, h8, h9, h10, g, v, c1, c2, h11, h12, h13, h14⟩⟩
  · exact .inl ⟨h1, h2, hb.trans (h3.mono hz), h4⟩
  · exact .inr ⟨h1, q, h2, .inl ⟨h3, h4, hb.trans (h5.mono hz), h6⟩⟩
  · exact .inr ⟨h1, q, h2, .inr ⟨h3, M, R, h4, h5, h6, h7, h8, h9, (Keep.of_below (S := fun i => i = p) hb).trans h10 (fun _ h => h) (fun _ _ h => h), g, v, c1, c2, h11, fun i hi => Nat.le_trans hz (h12 i hi), by omega, by omega⟩⟩
theorem SeeP.keep {w w' : World} {p : Nat} {V : List Nat} {X : List Dt} {K : Kl} {T : Tl} {L : List It} {b : Bool} {c : Int} (h : SeeP w w' p V X K T L b c) : Keep (fun i => i = p) w w' := by
  rcases h with ⟨_, _, h3, _⟩ | ⟨_, q, _, ⟨_, _, h5, _⟩ | ⟨_, M, R, _, _, _, _, _, _, h10, _⟩⟩
  · exact .of_below h3
  · exact .of_below h5
  · exact h10
section
variable {w w' : World} {p g : Nat} {v : Value} {V : List Nat} {X : List Dt} {b1 b2 : Nat} {K : Kl} {T : Tl}
theorem osee_p (h : Os w p g v V X b1 b2 K T) (vl : Value) (L : List It) (hs : SlK kIt w vl L) (hL : L.length ≤ 100000) (hX : X.length ≤ 4096) (hK : K.length ≤ 100000) (hT : T.length ≤ 100000) :
    Calls Tryz.prog 34 #[.pointer (some ⟨p, 0, none⟩), vl] w fun e w' => ∃ b c, e = .returned (.tuple #[.bool b, .int .i64 c]) ∧ SeeP w w' p V X K T L b c := by
  refine (osee_any h vl L hs hL hX hK hT).mono ?_
  rintro e w' (⟨rfl, h1, h2⟩ | ⟨h1, q, h2, ⟨rfl, h3, h4⟩ | ⟨h3, M, R, h4, h5, h6, h7, rfl, h8⟩⟩)
  · exact ⟨_, _, rfl, .inl ⟨rfl, rfl, h1, h2⟩⟩
  · exact ⟨_, _, rfl, .inr ⟨h1, q, h2, .inl ⟨rfl, rfl, h3, h4⟩⟩⟩
  · exact ⟨_, _, rfl, .inr ⟨h1, q, h2, .inr ⟨h3, M, R, h4, h5, h6, h7, rfl, rfl, h8⟩⟩⟩
set_option maxHeartbeats 1000000 in
theorem otell_any (h : Os w p g v V X b1 b2 K T) (vl : Value) (L : List It) (hs : SlK kIt w vl L) (hL : L.length ≤ 100000) (hX : X.length ≤ 4096) (hK : K.length ≤ 100000) (hT : T.length ≤ 100000) :
    Calls Tryz.prog 86 #[.pointer (some ⟨p, 0, none⟩), vl] w fun e w' => ∃ b c vr, e = .returned (.tuple #[vr, .int .i64 c]) ∧ vr = (if c = 0 then vl else .slice none 0 0) ∧ SeeP w w' p V X K T L b c := by
  have HS := Lib.hid (osee_p h vl L hs hL hX hK hT)
  obtain ⟨A, c, rfl⟩ := hs.shape
  clear h hs
  go_enter Tryz.func86, Tryz.ntmps86
  go_wp2_with fail
  refine HS.out.mono ?_
  rintro e w2 ⟨b, cc, rfl, hp⟩
  have HP := Lib.hid hp
  clear HS hp
  by_cases hc : cc = 0
  · subst hc
    go_wp2
    go_ret2
    exact ⟨b, 0, _, rfl, rfl, HP.out⟩
  · have hcb : (cc != 0) = true := by simpa using hc
    have HC := Lib.hid hc
    clear hc
    go_wp2
    go_ret2
    exact ⟨b, cc, _, rfl, by rw [if_neg HC.out]; rfl, HP.out⟩
theorem goneI_ok {d : Dt} (h : May d) : itB (goneI d) = true := by
  unfold itB goneI
  simp [h]
set_option maxHeartbeats 2000000 in
theorem oremove_any (h : Os w p g v V X b1 b2 K T) (t u : ByteArray) (hn : (nameB t && nameB u) = true) (hX : X.length ≤ 4096) (hK : K.length ≤ 100000) (hT : T.length ≤ 100000) :
    Calls Tryz.prog 46 #[.pointer (some ⟨p, 0, none⟩), .agg #[.string t, .string u]] w fun e w' => ∃ b c vi vr M, e = .returned (.tuple #[vr, .int .i64 c]) ∧ vr = (if c = 0 then vi else .slice none 0 0) ∧ Pick K (isK K (t, u)) M ∧ OwnK kIt w' w.heap.size vi (M.map goneI) ∧ SeeP w w' p V X K T (M.map goneI) b c := by
  have hb1 : Below w.heap.size w (w.alloc (.cells #[.string t, .string u] 39)) := (Below.refl _ _).alloc (Nat.le_refl _) _
  have hq := onone_any (h.below hb1)
  have hk := fun W => mayKey_any t u W
  rw [hn] at hk
  have hbk := Blk.new w 39 #[.string t, .string u]
  have hpz : p < w.heap.size := h.blk.lt
  have H := Lib.hid h
  clear h hn
  go_enter Tryz.func46, Tryz.ntmps46
  go_wp2_with (first | (go_at_call 48; refine hq.mono ?_; rintro e wn ⟨rfl, rfl⟩) | (go_at_call 20; refine (hk _).mono ?_; rintro e w2 ⟨rfl, hg2⟩; have hbk2 := hbk.below hg2.below hbk.lt; have q0 : w2.cell? ⟨w.heap.size, 0, none⟩ = some (.string t) := (by rw [hbk2.cell]; rfl); have q1 : w2.cell? ⟨w.heap.size, 1, none⟩ = some (.string u) := (by rw [hbk2.cell]; rfl)))
  have hb2 := hb1.trans (hg2.below.mono hb1.size)
  have hE := ends_any (H.out.below hb2) t u hK
  refine hE.mono ?_
  rintro e w3 ⟨vi, M, rfl, hP, ho, hb3⟩
  have hb3' := hb2.trans (hb3.mono hb2.size)
  have hMl : M.length ≤ 100000 := by
    have : M.length ≤ (K.map Prod.fst).length := by
      have hnd : M.Nodup := hP.rise.imp fun hab => lt_ne_ hab
      exact List.Subset.length_le_of_nodup_ hnd fun d hd => ((hP.mem d).1 hd).1
    rw [List.length_map] at this
    omega
  obtain ⟨LL, hLL⟩ : ∃ l, M.map goneI = l := ⟨_, rfl⟩
  rw [hLL] at ho
  have hLl : LL.length ≤ 100000 := by rw [← hLL, List.length_map]; exact hMl
  have HLL := Lib.hid hLL
  have HT := Lib.hid (otell_any (H.out.below hb3') vi LL ho.slk hLl hX hK hT)
  clear hLL hLl
  have HO := Lib.hid (ho.mono hb2.size)
  have HB := Lib.hid hb3'
  obtain ⟨A, c, rfl⟩ := ho.shape
  clear hE ho hb3 hb3' hg2 hbk hq hk hb1
  have HPK := Lib.hid hP
  clear hP
  go_wp2_with fail
  refine HT.out.mono ?_
  rintro e w4 ⟨b, cc, vr, rfl, hvr, hs⟩
  have HZ := Lib.hid hs
  have HVR := Lib.hid hvr
  have HB2 := Lib.hid hb2
  clear HT hs hvr hb2 q0 q1 hMl
  go_wp2
  go_ret2
  refine ⟨b, cc, _, vr, M, rfl, HVR.out, HPK.out, ?_⟩
  rw [HLL.out]
  refine ⟨ HO.out.keep fun i hi => ?_, HZ.out.base HB.out⟩
  have := HO.out.lt i hi
  exact HZ.out.keep.block i this.2 (by omega)
end
end Go.Proofs.YtldfaaahmpncbaaGreat

namespace Go.Proofs.YtldfaaahmpncbaaGreat
open Go.RowKit Go.Maps
open CtxM
set_option linter.unusedVariables false
set_option linter.unusedSimpArgs false
set_option maxRecDepth 20000
section
variable {w w' : World} {p g : Nat} {v : Value} {V : List Nat} {X : List Dt} {b1 b2 : Nat} {K : Kl} {T : Tl}
set_option maxHeartbeats 2000000 in
theorem oadd_old (h : Os w p g v V X b1 b2 K T) (t u : ByteArray) (d : Dt) (hn : itB ⟨d, t, u, false⟩ = true) (hin : In V X d) (hX : X.length ≤ 4096) : Calls Tryz.prog 45 #[.pointer (some ⟨p, 0, none⟩), .agg #[.string t, .string u], .agg #[.int .i64 d.1, .int .u64 (d.2 : Int)]] w fun e w' => e = .returned (.tuple #[.slice none 0 0, .int .i64 2]) ∧ Below w.heap.size w w' := by
  have hfo : Tryz.prog.follows .mixedOrders = true := by kernel_rfl
  have hb1 : Below w.heap.size w (((w.alloc (.cells #[.string t, .string u] 39)).alloc (.cells #[.int .i64 d.1, .int .u64 (d.2 : Int)] 41)).alloc (.cells #[.int .i64 d.1, .int .u64 (d.2 : Int), .string t, .string u, .bool false] 48)) := (((Below.refl _ _).alloc (Nat.le_refl _) _).alloc (by simp) _).alloc (by simp; omega) _
  have hq := onone_any (h.below hb1)
  have hbd : Blk (((w.alloc (.cells #[.string t, .string u] 39)).alloc (.cells #[.int .i64 d.1, .int .u64 (d.2 : Int)] 41)).alloc (.cells #[.int .i64 d.1, .int .u64 (d.2 : Int), .string t, .string u, .bool false] 48)) (w.heap.size + 1) 41 #[.int .i64 d.1, .int .u64 (d.2 : Int)] := by
    have := (Blk.new (w.alloc (.cells #[.string t, .string u] 39)) 41 #[.int .i64 d.1, .int .u64 (d.2 : Int)]).alloc (.cells #[.int .i64 d.1, .int .u64 (d.2 : Int), .string t, .string u, .bool false] 48)
    rw [show (w.alloc (.cells #[.string t, .string u] 39)).heap.size = w.heap.size + 1 by simp] at this
    exact this
  have hm : ∀ W, Calls Tryz.prog 72 #[.agg #[.int .i64 d.1, .int .u64 (d.2 : Int), .string t, .string u, .bool false]] W fun e w' => e = .returned (.bool true) ∧ Grw W w' := fun W => by
    have := omay_any ⟨d, t, u, false⟩ W
    rw [hn] at this
    exact this
  have HHS := Lib.hid (show ∀ W, Os W p g v V X b1 b2 K T → Calls Tryz.prog 42 #[.pointer (some ⟨g, 0, none⟩), .agg #[.int .i64 d.1, .int .u64 (d.2 : Int)]] W fun e W' => e = .returned (.bool true) ∧ Below W.heap.size W W' from fun W hW => by
    refine (has_any g v V X d W hW.cx (by omega)).mono ?_
    rw [decide_eq_true hin]
    rintro e W' ⟨rfl, hg⟩
    exact ⟨rfl, hg.below⟩)
  have H1 := Lib.hid (And.intro (h.below hb1) hbd)
  have HB1 := Lib.hid hb1
  clear h hn hin hbd hb1
  go_enter Tryz.func45, Tryz.ntmps45
  go_upto_region 5 with (first | (go_at_call 48; refine hq.mono ?_; rintro e wn ⟨rfl, rfl⟩) | (go_at_call 72; refine (hm _).mono ?_; rintro e w2 ⟨rfl, hg2⟩))
  have h2 := H1.out.1.below hg2.below
  have hbd2 := H1.out.2.below hg2.below H1.out.2.lt
  have hbw2 := HB1.out.trans (hg2.below.mono HB1.out.size)
  clear hq hm hg2
  refine wp_region_held_drew (S := fun X => Below w2.drew.heap.size w2.drew X) hfo (Below.refl _ _) (fun hS0 => ?_)
  have hZ := h2.below (show Below w2.heap.size w2 w2.drew from (Below.refl _ _).drew)
  have hBZ : Blk w2.drew (w.heap.size + 1) 41 #[.int .i64 d.1, .int .u64 (d.2 : Int)] := hbd2
  have hbZ : Below w2.heap.size w2 w2.drew := (Below.refl _ _).drew
  generalize w2.drew = Z0 at hS0 hZ hBZ hbZ ⊢
  refine' wpAnyH_take (i := 0) (oi := ⟨some 19, _, _, _, _, _⟩) (v := _) rfl (by kernel_rfl) (by kernel_rfl) (by kernel_rfl) (fun _ _ _ h => h) (Or.inl ⟨by rfl, ?y0a⟩) hS0 ?r0a
  case y0a => (intro w' hSw; go_simp; try rfl)
  try simp only [Act.put, List.setIfInBounds_toArray, List.set_cons_zero, List.set_cons_succ]
  refine' wpAnyH_take (i := 1) (oi := ⟨some 20, _, _, _, _, _⟩) (v := _) rfl (by kernel_rfl) (by kernel_rfl) (by kernel_rfl) (fun _ _ _ h => h) (Or.inl ⟨by rfl, ?y1a⟩) hS0 ?r1a
  case y1a => (intro w' hSw; go_simp; try rfl)
  try simp only [Act.put, List.setIfInBounds_toArray, List.set_cons_zero, List.set_cons_succ]
  refine' wpAnyH_take (i := 2) (oi := ⟨some 21, _, _, _, _, _⟩) (v := _) rfl (by kernel_rfl) (by kernel_rfl) (by kernel_rfl) (fun _ _ _ h => h) (Or.inl ⟨by rfl, ?y2a⟩) hS0 ?r2a
  case y2a => (intro w' hSw; go_simp; try rfl)
  try simp only [Act.put, List.setIfInBounds_toArray, List.set_cons_zero, List.set_cons_succ]
  refine' wpAnyH_take (i := 3) (oi := ⟨some 22, _, _, _, _, _⟩) (v := _) rfl (by kernel_rfl) (by kernel_rfl) (by kernel_rfl) (fun _ _ _ h => h) (Or.inl ⟨by rfl, ?y3a⟩) hS0 ?r3a
  case y3a =>
    intro w' hSw
    have hO := hZ.below hSw; have q0 := hO.c0; have hD := hBZ.below hSw hBZ.lt; have d0 : w'.cell? ⟨w.heap.size + 1, 0, none⟩ = some (.int .i64 d.1) := (by rw [hD.cell]; rfl); have d1 : w'.cell? ⟨w.heap.size + 1, 1, none⟩ = some (.int .u64 (d.2 : Int)) := (by rw [hD.cell]; rfl)
    go_simp
    try rfl
  try simp only [Act.put, List.setIfInBounds_toArray, List.set_cons_zero, List.set_cons_succ]
  refine' wpAnyH_take (i := 4) (oi := ⟨some 23, _, _, _, _, _⟩) (v := _) rfl (by kernel_rfl) (by kernel_rfl) (by kernel_rfl) (fun _ _ _ h => h) (Or.inl ⟨by rfl, ?y4a⟩) hS0 ?r4a
  case y4a =>
    intro w' hSw
    have hO := hZ.below hSw; have q0 := hO.c0; have hD := hBZ.below hSw hBZ.lt; have d0 : w'.cell? ⟨w.heap.size + 1, 0, none⟩ = some (.int .i64 d.1) := (by rw [hD.cell]; rfl); have d1 : w'.cell? ⟨w.heap.size + 1, 1, none⟩ = some (.int .u64 (d.2 : Int)) := (by rw [hD.cell]; rfl)
    go_simp
    try rfl
  try simp only [Act.put, List.setIfInBounds_toArray, List.set_cons_zero, List.set_cons_succ]
  refine held_one (i := 5) (by kernel_rfl) rfl (fun Ka hK => ?_)
  go_simp
  refine (HHS.out Z0 hZ).mono ?_
  rintro e Z1 ⟨rfl, hq1⟩
  have hS1 := hS0.trans (hq1.mono hS0.size)
  refine hK.out _ _ hS1 (fun _ => ?_)
  clear hK Ka
  try simp only [Act.put, List.setIfInBounds_toArray, List.set_cons_zero, List.set_cons_succ]
  refine' wpAnyH_take (i := 6) (oi := ⟨some 15, _, _, _, _, _⟩) (v := _) rfl (by kernel_rfl) (by kernel_rfl) (by kernel_rfl) (fun _ _ _ h => h) (Or.inl ⟨by rfl, ?y6a⟩) hS1 ?r6a
  case y6a => (intro w' hSw; go_simp; try rfl)
  try simp only [Act.put, List.setIfInBounds_toArray, List.set_cons_zero, List.set_cons_succ]
  refine wpAnyH_done (by kernel_rfl) ?_ _
  have hbz := hbw2.trans ((hbZ.trans (hS1.mono hbZ.size)).mono hbw2.size)
  clear hS0 hS1 hq1 hZ hBZ hbZ h2 hbd2 hbw2
  go_wp2
  go_ret2
  exact ⟨rfl, hbz⟩
end
end Go.Proofs.YtldfaaahmpncbaaGreat

namespace Go.Proofs.YtldfaaahmpncbaaGreat
open Go.RowKit Go.Maps
open CtxM
set_option linter.unusedVariables false
set_option linter.unusedSimpArgs false
set_option maxRecDepth 20000
theorem OwnK.one {α : Type} {k : Kd α} (w : World) (x : α) (C : Array Value) (hC : C.toList = k.en x) : OwnK k (w.alloc (.cells C k.ty)) w.heap.size (.slice (some ⟨w.heap.size, 0, none⟩) 1 1) [x] := by
  have hs : C.size = k.sz := by rw [← Array.length_toList, hC, k.len]
  refine ⟨by rw [cellsK_length], .inr ⟨w.heap.size, 1, C, rfl, Nat.le_refl _, Blk.new w _ _, Nat.le_refl _, by decide, by rw [Nat.one_mul, hs], ?_⟩⟩
  show C.toList.take (1 * k.sz) = cellsK k [x]
  rw [Nat.one_mul, ← hs, ← Array.length_toList, List.take_length, hC]
  simp [cellsK]
theorem heldOp_append {P : Program} {o : Oper} {a : Act} {w : World} {K : Act → World → Prop} {Q : Exit → Act → World → Prop} (s x : Operand) (t : TypeId) (ho : o.op = .call { callee := .builtin .append, args := #[s, x], argTypes := #[t, t] })
    (v v2 : Value) (v'' : Value) (w'' : World) (hs : a.eval s = v) (hx : a.eval x = v2) (hr : (Builtin.append_ #[t, t] o.type #[v, v2]).run P w = .ok v'' w'') (h : K (a.put o.dst v'') w'') : Oper.wp P o a w K Q := by
  unfold Oper.wp execOp
  simp only [ho, resolve, invoke, builtin, Sem.run_bind, Sem.run_pure, Result.andThen_ok, List.map_toArray, List.map_cons, List.map_nil, hs, hx, hr]
  exact h
section
variable {w w' : World} {p g : Nat} {v : Value} {V : List Nat} {X : List Dt} {b1 b2 : Nat} {K : Kl} {T : Tl}
/-- What Add of a new dot answers and leaves. -/
def AddEnd (w : World) (p : Nat) (V : List Nat) (X : List Dt) (K : Kl) (T : Tl) (d : Dt) (t u : ByteArray) (e : Ending) (w' : World) : Prop :=
  ∃ b c vi vr M, e = .returned (.tuple #[vr, .int .i64 c]) ∧ vr = (if c = 0 then vi else .slice none 0 0) ∧ Pick K (isK K (t, u)) M ∧ OwnK kIt w' w.heap.size vi ([⟨d, t, u, false⟩] ++ M.map goneI) ∧ SeeP w w' p V X K T ([⟨d, t, u, false⟩] ++ M.map goneI) b c
set_option maxHeartbeats 2000000 in
theorem oadd_any (h : Os w p g v V X b1 b2 K T) (t u : ByteArray) (d : Dt) (hn : itB ⟨d, t, u, false⟩ = true) (hin : ¬ In V X d) (hX : X.length ≤ 4096) (hK : K.length ≤ 90000) (hT : T.length ≤ 100000) : Calls Tryz.prog 45 #[.pointer (some ⟨p, 0, none⟩), .agg #[.string t, .string u], .agg #[.int .i64 d.1, .int .u64 (d.2 : Int)]] w fun e w' => AddEnd w p V X K T d t u e w' := by
  have hfo : Tryz.prog.follows .mixedOrders = true := by kernel_rfl
  obtain ⟨i0, hi0, hz0, hz1, hz2⟩ := info_parts info_item
  have hpz : p < w.heap.size := h.blk.lt
  have hb1 : Below w.heap.size w (((w.alloc (.cells #[.string t, .string u] 39)).alloc (.cells #[.int .i64 d.1, .int .u64 (d.2 : Int)] 41)).alloc (.cells #[.int .i64 d.1, .int .u64 (d.2 : Int), .string t, .string u, .bool false] 48)) := (((Below.refl _ _).alloc (Nat.le_refl _) _).alloc (by simp) _).alloc (by simp; omega) _
  have hq := onone_any (h.below hb1)
  have hbd : Blk (((w.alloc (.cells #[.string t, .string u] 39)).alloc (.cells #[.int .i64 d.1, .int .u64 (d.2 : Int)] 41)).alloc (.cells #[.int .i64 d.1, .int .u64 (d.2 : Int), .string t, .string u, .bool false] 48)) (w.heap.size + 1) 41 #[.int .i64 d.1, .int .u64 (d.2 : Int)] := by
    have := (Blk.new (w.alloc (.cells #[.string t, .string u] 39)) 41 #[.int .i64 d.1, .int .u64 (d.2 : Int)]).alloc (.cells #[.int .i64 d.1, .int .u64 (d.2 : Int), .string t, .string u, .bool false] 48)
    rw [show (w.alloc (.cells #[.string t, .string u] 39)).heap.size = w.heap.size + 1 by simp] at this
    exact this
  have hbk : Blk (((w.alloc (.cells #[.string t, .string u] 39)).alloc (.cells #[.int .i64 d.1, .int .u64 (d.2 : Int)] 41)).alloc (.cells #[.int .i64 d.1, .int .u64 (d.2 : Int), .string t, .string u, .bool false] 48)) w.heap.size 39 #[.string t, .string u] := ((Blk.new w _ _).alloc _).alloc _
  have hbi : Blk (((w.alloc (.cells #[.string t, .string u] 39)).alloc (.cells #[.int .i64 d.1, .int .u64 (d.2 : Int)] 41)).alloc (.cells #[.int .i64 d.1, .int .u64 (d.2 : Int), .string t, .string u, .bool false] 48)) (w.heap.size + 2) 48 #[.int .i64 d.1, .int .u64 (d.2 : Int), .string t, .string u, .bool false] := by
    have := Blk.new ((w.alloc (.cells #[.string t, .string u] 39)).alloc (.cells #[.int .i64 d.1, .int .u64 (d.2 : Int)] 41)) 48 #[.int .i64 d.1, .int .u64 (d.2 : Int), .string t, .string u, .bool false]
    rw [show ((w.alloc (.cells #[.string t, .string u] 39)).alloc (.cells #[.int .i64 d.1, .int .u64 (d.2 : Int)] 41)).heap.size = w.heap.size + 2 by simp] at this
    exact this
  have hm : ∀ W, Calls Tryz.prog 72 #[.agg #[.int .i64 d.1, .int .u64 (d.2 : Int), .string t, .string u, .bool false]] W fun e w' => e = .returned (.bool true) ∧ Grw W w' := fun W => by
    have := omay_any ⟨d, t, u, false⟩ W
    rw [hn] at this
    exact this
  have HHS := Lib.hid (show ∀ W, Os W p g v V X b1 b2 K T → Calls Tryz.prog 42 #[.pointer (some ⟨g, 0, none⟩), .agg #[.int .i64 d.1, .int .u64 (d.2 : Int)]] W fun e W' => e = .returned (.bool false) ∧ Below W.heap.size W W' from fun W hW => by
    refine (has_any g v V X d W hW.cx (by omega)).mono ?_
    rw [decide_eq_false hin]
    rintro e W' ⟨rfl, hg⟩
    exact ⟨rfl, hg.below⟩)
  have H1 := Lib.hid (And.intro (h.below hb1) hbd)
  have H2 := Lib.hid (And.intro hbk hbi)
  have HB1 := Lib.hid hb1
  clear h hn hin hbd hb1 hbk hbi
  go_enter Tryz.func45, Tryz.ntmps45
  go_upto_region 5 with (first | (go_at_call 48; refine hq.mono ?_; rintro e wn ⟨rfl, rfl⟩) | (go_at_call 72; refine (hm _).mono ?_; rintro e w2 ⟨rfl, hg2⟩))
  have h2 := H1.out.1.below hg2.below
  have hbd2 := H1.out.2.below hg2.below H1.out.2.lt
  have hbk2 := H2.out.1.below hg2.below H2.out.1.lt
  have hbi2 := H2.out.2.below hg2.below H2.out.2.lt
  have hbw2 := HB1.out.trans (hg2.below.mono HB1.out.size)
  clear hq hm hg2 H1 H2
  refine wp_region_held_drew (S := fun X => Below w2.drew.heap.size w2.drew X) hfo (Below.refl _ _) (fun hS0 => ?_)
  have hZ := h2.below (show Below w2.heap.size w2 w2.drew from (Below.refl _ _).drew)
  have hBZ : Blk w2.drew (w.heap.size + 1) 41 #[.int .i64 d.1, .int .u64 (d.2 : Int)] := hbd2
  have hbZ : Below w2.heap.size w2 w2.drew := (Below.refl _ _).drew
  generalize w2.drew = Z0 at hS0 hZ hBZ hbZ ⊢
  refine' wpAnyH_take (i := 0) (oi := ⟨some 19, _, _, _, _, _⟩) (v := _) rfl (by kernel_rfl) (by kernel_rfl) (by kernel_rfl) (fun _ _ _ h => h) (Or.inl ⟨by rfl, ?y0a⟩) hS0 ?r0a
  case y0a => (intro w' hSw; go_simp; try rfl)
  try simp only [Act.put, List.setIfInBounds_toArray, List.set_cons_zero, List.set_cons_succ]
  refine' wpAnyH_take (i := 1) (oi := ⟨some 20, _, _, _, _, _⟩) (v := _) rfl (by kernel_rfl) (by kernel_rfl) (by kernel_rfl) (fun _ _ _ h => h) (Or.inl ⟨by rfl, ?y1a⟩) hS0 ?r1a
  case y1a => (intro w' hSw; go_simp; try rfl)
  try simp only [Act.put, List.setIfInBounds_toArray, List.set_cons_zero, List.set_cons_succ]
  refine' wpAnyH_take (i := 2) (oi := ⟨some 21, _, _, _, _, _⟩) (v := _) rfl (by kernel_rfl) (by kernel_rfl) (by kernel_rfl) (fun _ _ _ h => h) (Or.inl ⟨by rfl, ?y2a⟩) hS0 ?r2a
  case y2a => (intro w' hSw; go_simp; try rfl)
  try simp only [Act.put, List.setIfInBounds_toArray, List.set_cons_zero, List.set_cons_succ]
  refine' wpAnyH_take (i := 3) (oi := ⟨some 22, _, _, _, _, _⟩) (v := _) rfl (by kernel_rfl) (by kernel_rfl) (by kernel_rfl) (fun _ _ _ h => h) (Or.inl ⟨by rfl, ?y3a⟩) hS0 ?r3a
  case y3a =>
    intro w' hSw
    have hO := hZ.below hSw; have q0 := hO.c0; have hD := hBZ.below hSw hBZ.lt; have d0 : w'.cell? ⟨w.heap.size + 1, 0, none⟩ = some (.int .i64 d.1) := (by rw [hD.cell]; rfl); have d1 : w'.cell? ⟨w.heap.size + 1, 1, none⟩ = some (.int .u64 (d.2 : Int)) := (by rw [hD.cell]; rfl)
    go_simp
    try rfl
  try simp only [Act.put, List.setIfInBounds_toArray, List.set_cons_zero, List.set_cons_succ]
  refine' wpAnyH_take (i := 4) (oi := ⟨some 23, _, _, _, _, _⟩) (v := _) rfl (by kernel_rfl) (by kernel_rfl) (by kernel_rfl) (fun _ _ _ h => h) (Or.inl ⟨by rfl, ?y4a⟩) hS0 ?r4a
  case y4a =>
    intro w' hSw
    have hO := hZ.below hSw; have q0 := hO.c0; have hD := hBZ.below hSw hBZ.lt; have d0 : w'.cell? ⟨w.heap.size + 1, 0, none⟩ = some (.int .i64 d.1) := (by rw [hD.cell]; rfl); have d1 : w'.cell? ⟨w.heap.size + 1, 1, none⟩ = some (.int .u64 (d.2 : Int)) := (by rw [hD.cell]; rfl)
    go_simp
    try rfl
  try simp only [Act.put, List.setIfInBounds_toArray, List.set_cons_zero, List.set_cons_succ]
  refine held_one (i := 5) (by kernel_rfl) rfl (fun Ka hK => ?_)
  go_simp
  refine (HHS.out Z0 hZ).mono ?_
  rintro e Z1 ⟨rfl, hq1⟩
  have hS1 := hS0.trans (hq1.mono hS0.size)
  refine hK.out _ _ hS1 (fun _ => ?_)
  clear hK Ka
  try simp only [Act.put, List.setIfInBounds_toArray, List.set_cons_zero, List.set_cons_succ]
  refine' wpAnyH_take (i := 6) (oi := ⟨some 15, _, _, _, _, _⟩) (v := _) rfl (by kernel_rfl) (by kernel_rfl) (by kernel_rfl) (fun _ _ _ h => h) (Or.inl ⟨by rfl, ?y6a⟩) hS1 ?r6a
  case y6a => (intro w' hSw; go_simp; try rfl)
  try simp only [Act.put, List.setIfInBounds_toArray, List.set_cons_zero, List.set_cons_succ]
  refine wpAnyH_done (by kernel_rfl) ?_ _
  have hc := hbZ.trans (hS1.mono hbZ.size)
  have hb7 := hbw2.trans (hc.mono hbw2.size)
  have h7 := h2.below hc
  have hbk7 := hbk2.below hc hbk2.lt
  have hbi7 := hbi2.below hc hbi2.lt
  clear hc hS0 hS1 hq1 hZ hBZ hbZ h2 hbd2 hbw2 hbk2 hbi2
  go_upto_region 7 with fail
  have hpk : ¬ (w.heap.size = p) := by omega
  have hpi : ¬ (w.heap.size + 2 = p) := by omega
  generalize Z1 = W7 at h7 hb7 hbk7 hbi7 ⊢
  refine wp_region_held_drew (S := fun Y => Keep (fun i => i = p) W7.drew Y) hfo (Keep.refl _ _) (fun hS0 => ?_)
  replace h7 := h7.below (show Below W7.heap.size W7 W7.drew from (Below.refl _ _).drew)
  replace hb7 := hb7.trans ((show Below W7.heap.size W7 W7.drew from (Below.refl _ _).drew).mono hb7.size)
  replace hbk7 : Blk W7.drew w.heap.size 39 #[.string t, .string u] := hbk7
  replace hbi7 : Blk W7.drew (w.heap.size + 2) 48 #[.int .i64 d.1, .int .u64 (d.2 : Int), .string t, .string u, .bool false] := hbi7
  generalize W7.drew = Z0 at hS0 h7 hb7 hbk7 hbi7 ⊢
  refine' wpAnyH_take (i := 0) (oi := ⟨some 25, _, _, _, _, _⟩) (v := _) rfl (by kernel_rfl) (by kernel_rfl) (by kernel_rfl) (fun _ _ _ h => h) (Or.inl ⟨by rfl, ?y0h⟩) hS0 ?r0h
  case y0h =>
    intro w' hSw
    go_simp
    try rfl
  try simp only [Act.put, List.setIfInBounds_toArray, List.set_cons_zero, List.set_cons_succ]
  refine' wpAnyH_take (i := 1) (oi := ⟨some 26, _, _, _, _, _⟩) (v := _) rfl (by kernel_rfl) (by kernel_rfl) (by kernel_rfl) (fun _ _ _ h => h) (Or.inl ⟨by rfl, ?y1h⟩) hS0 ?r1h
  case y1h =>
    intro w' hSw
    have hK := hbk7.kept hSw hpk; have hI := hbi7.kept hSw hpi; have k0 : w'.cell? ⟨w.heap.size, 0, none⟩ = some (.string t) := (by rw [hK.cell]; rfl); have k1 : w'.cell? ⟨w.heap.size, 1, none⟩ = some (.string u) := (by rw [hK.cell]; rfl); have i0 : w'.cell? ⟨w.heap.size + 2, 0, none⟩ = some (.int .i64 d.1) := (by rw [hI.cell]; rfl); have i1 : w'.cell? ⟨w.heap.size + 2, 1, none⟩ = some (.int .u64 (d.2 : Int)) := (by rw [hI.cell]; rfl); have i2 : w'.cell? ⟨w.heap.size + 2, 2, none⟩ = some (.string t) := (by rw [hI.cell]; rfl); have i3 : w'.cell? ⟨w.heap.size + 2, 3, none⟩ = some (.string u) := (by rw [hI.cell]; rfl); have i4 : w'.cell? ⟨w.heap.size + 2, 4, none⟩ = some (.bool false) := (by rw [hI.cell]; rfl)
    go_simp
    try rfl
  try simp only [Act.put, List.setIfInBounds_toArray, List.set_cons_zero, List.set_cons_succ]
  refine' wpAnyH_take (i := 3) (oi := ⟨some 28, _, _, _, _, _⟩) (v := _) rfl (by kernel_rfl) (by kernel_rfl) (by kernel_rfl) (fun _ _ _ h => h) (Or.inl ⟨by rfl, ?y3h⟩) hS0 ?r3h
  case y3h =>
    intro w' hSw
    go_simp
    try rfl
  try simp only [Act.put, List.setIfInBounds_toArray, List.set_cons_zero, List.set_cons_succ]
  refine' wpAnyH_take (i := 4) (oi := ⟨some 29, _, _, _, _, _⟩) (v := _) rfl (by kernel_rfl) (by kernel_rfl) (by kernel_rfl) (fun _ _ _ h => h) (Or.inl ⟨by rfl, ?y4h⟩) hS0 ?r4h
  case y4h =>
    intro w' hSw
    have hK := hbk7.kept hSw hpk; have hI := hbi7.kept hSw hpi; have k0 : w'.cell? ⟨w.heap.size, 0, none⟩ = some (.string t) := (by rw [hK.cell]; rfl); have k1 : w'.cell? ⟨w.heap.size, 1, none⟩ = some (.string u) := (by rw [hK.cell]; rfl); have i0 : w'.cell? ⟨w.heap.size + 2, 0, none⟩ = some (.int .i64 d.1) := (by rw [hI.cell]; rfl); have i1 : w'.cell? ⟨w.heap.size + 2, 1, none⟩ = some (.int .u64 (d.2 : Int)) := (by rw [hI.cell]; rfl); have i2 : w'.cell? ⟨w.heap.size + 2, 2, none⟩ = some (.string t) := (by rw [hI.cell]; rfl); have i3 : w'.cell? ⟨w.heap.size + 2, 3, none⟩ = some (.string u) := (by rw [hI.cell]; rfl); have i4 : w'.cell? ⟨w.heap.size + 2, 4, none⟩ = some (.bool false) := (by rw [hI.cell]; rfl)
    go_simp
    try rfl
  try simp only [Act.put, List.setIfInBounds_toArray, List.set_cons_zero, List.set_cons_succ]
  refine held_two (i := 2) (j := 5) (by kernel_rfl) rfl rfl ?kA ?kB
  case kA =>
    intro Kq hK
    go_simp
    have hA : Below Z0.heap.size Z0 (Z0.alloc (.cells #[.int .i64 d.1, .int .u64 (d.2 : Int), .string t, .string u, .bool false] 48)) := (Below.refl _ _).alloc (Nat.le_refl _) _
    have hvs0 := OwnK.one (k := kIt) Z0 (⟨d, t, u, false⟩ : It) #[.int .i64 d.1, .int .u64 (d.2 : Int), .string t, .string u, .bool false] rfl
    have h71 := h7.below hA
    refine hK.out _ _ (.of_below hA) (fun _ => ?_)
    clear hK Kq
    try simp only [Act.put, List.setIfInBounds_toArray, List.set_cons_zero, List.set_cons_succ]
    refine held_one (i := 5) (by kernel_rfl) rfl (fun Kc hK => ?_)
    go_simp
    refine (ends_any h71 t u (by omega)).mono ?_
    rintro e Z2 ⟨vi, M, rfl, hP, ho2, hb2'⟩
    have hb2 := hA.trans (hb2'.mono hA.size)
    have hS2 : Keep (fun i => i = p) Z0 Z2 := .of_below hb2
    have hvs1 := hvs0.below hb2'
    have hvi := ho2.slk
    refine hK.out _ _ hS2 (fun _ => ?_)
    clear hK Kc h71 ho2 hb2' hvs0 hA
    try simp only [Act.put, List.setIfInBounds_toArray, List.set_cons_zero, List.set_cons_succ]
    generalize Value.slice (some ⟨Z0.heap.size, 0, none⟩) 1 1 = vs at hvs1 ⊢
    have hvo := fun i e => (hvs1.lt i e).1
    have hvs := hvs1.mono hb7.size
    clear hvs1
    have hMl : M.length ≤ 90000 := by
      have : M.length ≤ (K.map Prod.fst).length := by
        have hnd : M.Nodup := hP.rise.imp fun hab => lt_ne_ hab
        exact List.Subset.length_le_of_nodup_ hnd fun d hd => ((hP.mem d).1 hd).1
      rw [List.length_map] at this
      omega
    obtain ⟨v3, Z3, hr3, ho3, hg3, _⟩ := run_append_k (k := kIt) (P := Tryz.prog) Z2 w.heap.size 33 33 i0 Tryz.underlying33 hi0 hz0 hz1 hz2 vs [(⟨d, t, u, false⟩ : It)] hvs vi (M.map goneI) hvi (by rw [List.length_map]; simp [maxLen]; omega) (by rw [List.length_map]; simp [kIt]; omega) (by have := hb7.size; have := hb2.size; omega)
    have hb3 : Below Z0.heap.size Z0 Z3 := hb2.grown hg3 hb2.size hvo
    have hS3 : Keep (fun i => i = p) Z0 Z3 := .of_below hb3
    obtain ⟨LL, hLL⟩ : ∃ l, [(⟨d, t, u, false⟩ : It)] ++ M.map goneI = l := ⟨_, rfl⟩
    rw [hLL] at ho3
    have hLl : LL.length ≤ 100000 := by rw [← hLL, List.length_append, List.length_map]; simp; omega
    have HLL := Lib.hid hLL
    have HT := Lib.hid (otell_any (h7.below hb3) v3 LL ho3.slk hLl hX (by omega) hT)
    have HO := Lib.hid ho3
    have HB3 := Lib.hid (hb7.trans (hb3.mono hb7.size))
    have HPK := Lib.hid hP
    clear hLL hLl ho3 hP hg3 hb3 hvs hvi hMl hvo
    refine held_one (i := 6) (by kernel_rfl) rfl (fun Kc hK => ?_)
    refine heldOp_append (.tmp 27) (.tmp 30) 33 rfl _ _ v3 Z3 rfl rfl hr3 ?_
    refine hK.out _ _ hS3 (fun _ => ?_)
    clear hK Kc hr3
    try simp only [Act.put, List.setIfInBounds_toArray, List.set_cons_zero, List.set_cons_succ]
    refine held_one (i := 7) (by kernel_rfl) rfl (fun Kc hK => ?_)
    go_simp
    refine HT.out.mono ?_
    rintro e Z4 ⟨b, cc, vr, rfl, hvr, hs⟩
    have hS4 : Keep (fun i => i = p) Z0 Z4 := hS3.trans hs.keep (fun _ h => h) (fun _ _ h => h)
    have HV := Lib.hid (And.intro hvr hs)
    clear hvr hs
    refine hK.out _ _ hS4 (fun _ => ?_)
    clear hK Kc
    try simp only [Act.put, List.setIfInBounds_toArray, List.set_cons_zero, List.set_cons_succ]
    refine' wpAnyH_take (i := 8) (oi := ⟨some 33, _, _, _, _, _⟩) (v := _) rfl (by kernel_rfl) (by kernel_rfl) (by kernel_rfl) (fun _ _ _ h => h) (Or.inl ⟨by rfl, ?y8ta⟩) hS4 ?r8ta
    case y8ta =>
      intro w' hSw
      go_simp
      try rfl
    try simp only [Act.put, List.setIfInBounds_toArray, List.set_cons_zero, List.set_cons_succ]
    refine' wpAnyH_take (i := 9) (oi := ⟨some 34, _, _, _, _, _⟩) (v := _) rfl (by kernel_rfl) (by kernel_rfl) (by kernel_rfl) (fun _ _ _ h => h) (Or.inl ⟨by rfl, ?y9ta⟩) hS4 ?r9ta
    case y9ta =>
      intro w' hSw
      go_simp
      try rfl
    try simp only [Act.put, List.setIfInBounds_toArray, List.set_cons_zero, List.set_cons_succ]
    refine' wpAnyH_take (i := 10) (oi := ⟨some 6, _, _, _, _, _⟩) (v := _) rfl (by kernel_rfl) (by kernel_rfl) (by kernel_rfl) (fun _ _ _ h => h) (Or.inl ⟨by rfl, ?y10ta⟩) hS4 ?r10ta
    case y10ta =>
      intro w' hSw
      go_simp
      try rfl
    try simp only [Act.put, List.setIfInBounds_toArray, List.set_cons_zero, List.set_cons_succ]
    refine' wpAnyH_take (i := 11) (oi := ⟨some 7, _, _, _, _, _⟩) (v := _) rfl (by kernel_rfl) (by kernel_rfl) (by kernel_rfl) (fun _ _ _ h => h) (Or.inl ⟨by rfl, ?y11ta⟩) hS4 ?r11ta
    case y11ta =>
      intro w' hSw
      go_simp
      try rfl
    try simp only [Act.put, List.setIfInBounds_toArray, List.set_cons_zero, List.set_cons_succ]
    refine wpAnyH_done (by kernel_rfl) ?_ _
    clear hS3 hS4 hS2 HT h7 hb2 hS0
    go_wp2
    go_ret2
    refine (show AddEnd w p V X K T d t u (.returned (.tuple #[vr, .int .i64 cc])) Z4 from ⟨b, cc, v3, vr, M, rfl, HV.out.1, HPK.out, ?_⟩)
    rw [HLL.out]
    refine ⟨HO.out.keep fun i hi => ?_, HV.out.2.base HB3.out⟩
    have := HO.out.lt i hi
    exact HV.out.2.keep.block i this.2 (by omega)
  case kB =>
    intro Kq hK
    go_simp
    refine (ends_any h7 t u (by omega)).mono ?_
    rintro e Z1 ⟨vi, M, rfl, hP, ho1, hb1⟩
    refine hK.out _ _ (.of_below hb1) (fun _ => ?_)
    clear hK Kq
    try simp only [Act.put, List.setIfInBounds_toArray, List.set_cons_zero, List.set_cons_succ]
    have hA : Below Z1.heap.size Z1 (Z1.alloc (.cells #[.int .i64 d.1, .int .u64 (d.2 : Int), .string t, .string u, .bool false] 48)) := (Below.refl _ _).alloc (Nat.le_refl _) _
    have hvs0 : OwnK kIt (Z1.alloc (.cells #[.int .i64 d.1, .int .u64 (d.2 : Int), .string t, .string u, .bool false] 48)) Z1.heap.size (.slice (some ⟨Z1.heap.size, 0, none⟩) 1 1) [(⟨d, t, u, false⟩ : It)] := OwnK.one (k := kIt) Z1 (⟨d, t, u, false⟩ : It) #[.int .i64 d.1, .int .u64 (d.2 : Int), .string t, .string u, .bool false] rfl
    have hb2 := hb1.trans (hA.mono hb1.size)
    have hS2 : Keep (fun i => i = p) Z0 (Z1.alloc (.cells #[.int .i64 d.1, .int .u64 (d.2 : Int), .string t, .string u, .bool false] 48)) := .of_below hb2
    have hvi := (ho1.below hA).slk
    have hz01 := hb1.size
    refine held_one (i := 2) (by kernel_rfl) rfl (fun Kc hK => ?_)
    go_simp
    refine hK.out _ _ hS2 (fun _ => ?_)
    clear hK Kc ho1 hA
    try simp only [Act.put, List.setIfInBounds_toArray, List.set_cons_zero, List.set_cons_succ]
    have hvo0 := fun i e => (hvs0.lt i e).1
    generalize Z1.alloc (.cells #[.int .i64 d.1, .int .u64 (d.2 : Int), .string t, .string u, .bool false] 48) = Z2 at hb2 hS2 hvi hvs0 hvo0 ⊢
    generalize Value.slice (some ⟨Z1.heap.size, 0, none⟩) 1 1 = vs at hvs0 hvo0 ⊢
    have hvo : ∀ i, vs.ownBlock = some i → Z0.heap.size ≤ i := fun i e => by have := hvo0 i e; omega
    have hvs := hvs0.mono (show w.heap.size ≤ Z1.heap.size by have := hb7.size; omega)
    clear hvs0 hvo0 hb1
    have hMl : M.length ≤ 90000 := by
      have : M.length ≤ (K.map Prod.fst).length := by
        have hnd : M.Nodup := hP.rise.imp fun hab => lt_ne_ hab
        exact List.Subset.length_le_of_nodup_ hnd fun d hd => ((hP.mem d).1 hd).1
      rw [List.length_map] at this
      omega
    obtain ⟨v3, Z3, hr3, ho3, hg3, _⟩ := run_append_k (k := kIt) (P := Tryz.prog) Z2 w.heap.size 33 33 i0 Tryz.underlying33 hi0 hz0 hz1 hz2 vs [(⟨d, t, u, false⟩ : It)] hvs vi (M.map goneI) hvi (by rw [List.length_map]; simp [maxLen]; omega) (by rw [List.length_map]; simp [kIt]; omega) (by have := hb7.size; have := hb2.size; omega)
    have hb3 : Below Z0.heap.size Z0 Z3 := hb2.grown hg3 hb2.size hvo
    have hS3 : Keep (fun i => i = p) Z0 Z3 := .of_below hb3
    obtain ⟨LL, hLL⟩ : ∃ l, [(⟨d, t, u, false⟩ : It)] ++ M.map goneI = l := ⟨_, rfl⟩
    rw [hLL] at ho3
    have hLl : LL.length ≤ 100000 := by rw [← hLL, List.length_append, List.length_map]; simp; omega
    have HLL := Lib.hid hLL
    have HT := Lib.hid (otell_any (h7.below hb3) v3 LL ho3.slk hLl hX (by omega) hT)
    have HO := Lib.hid ho3
    have HB3 := Lib.hid (hb7.trans (hb3.mono hb7.size))
    have HPK := Lib.hid hP
    clear hLL hLl ho3 hP hg3 hb3 hvs hvi hMl hvo
    refine held_one (i := 6) (by kernel_rfl) rfl (fun Kc hK => ?_)
    refine heldOp_append (.tmp 27) (.tmp 30) 33 rfl _ _ v3 Z3 rfl rfl hr3 ?_
    refine hK.out _ _ hS3 (fun _ => ?_)
    clear hK Kc hr3
    try simp only [Act.put, List.setIfInBounds_toArray, List.set_cons_zero, List.set_cons_succ]
    refine held_one (i := 7) (by kernel_rfl) rfl (fun Kc hK => ?_)
    go_simp
    refine HT.out.mono ?_
    rintro e Z4 ⟨b, cc, vr, rfl, hvr, hs⟩
    have hS4 : Keep (fun i => i = p) Z0 Z4 := hS3.trans hs.keep (fun _ h => h) (fun _ _ h => h)
    have HV := Lib.hid (And.intro hvr hs)
    clear hvr hs
    refine hK.out _ _ hS4 (fun _ => ?_)
    clear hK Kc
    try simp only [Act.put, List.setIfInBounds_toArray, List.set_cons_zero, List.set_cons_succ]
    refine' wpAnyH_take (i := 8) (oi := ⟨some 33, _, _, _, _, _⟩) (v := _) rfl (by kernel_rfl) (by kernel_rfl) (by kernel_rfl) (fun _ _ _ h => h) (Or.inl ⟨by rfl, ?y8tb⟩) hS4 ?r8tb
    case y8tb =>
      intro w' hSw
      go_simp
      try rfl
    try simp only [Act.put, List.setIfInBounds_toArray, List.set_cons_zero, List.set_cons_succ]
    refine' wpAnyH_take (i := 9) (oi := ⟨some 34, _, _, _, _, _⟩) (v := _) rfl (by kernel_rfl) (by kernel_rfl) (by kernel_rfl) (fun _ _ _ h => h) (Or.inl ⟨by rfl, ?y9tb⟩) hS4 ?r9tb
    case y9tb =>
      intro w' hSw
      go_simp
      try rfl
    try simp only [Act.put, List.setIfInBounds_toArray, List.set_cons_zero, List.set_cons_succ]
    refine' wpAnyH_take (i := 10) (oi := ⟨some 6, _, _, _, _, _⟩) (v := _) rfl (by kernel_rfl) (by kernel_rfl) (by kernel_rfl) (fun _ _ _ h => h) (Or.inl ⟨by rfl, ?y10tb⟩) hS4 ?r10tb
    case y10tb =>
      intro w' hSw
      go_simp
      try rfl
    try simp only [Act.put, List.setIfInBounds_toArray, List.set_cons_zero, List.set_cons_succ]
    refine' wpAnyH_take (i := 11) (oi := ⟨some 7, _, _, _, _, _⟩) (v := _) rfl (by kernel_rfl) (by kernel_rfl) (by kernel_rfl) (fun _ _ _ h => h) (Or.inl ⟨by rfl, ?y11tb⟩) hS4 ?r11tb
    case y11tb =>
      intro w' hSw
      go_simp
      try rfl
    try simp only [Act.put, List.setIfInBounds_toArray, List.set_cons_zero, List.set_cons_succ]
    refine wpAnyH_done (by kernel_rfl) ?_ _
    clear hS3 hS4 hS2 HT h7 hb2 hS0
    go_wp2
    go_ret2
    refine (show AddEnd w p V X K T d t u (.returned (.tuple #[vr, .int .i64 cc])) Z4 from ⟨b, cc, v3, vr, M, rfl, HV.out.1, HPK.out, ?_⟩)
    rw [HLL.out]
    refine ⟨HO.out.keep fun i hi => ?_, HV.out.2.base HB3.out⟩
    have := HO.out.lt i hi
    exact HV.out.2.keep.block i this.2 (by omega)
end
end Go.Proofs.YtldfaaahmpncbaaGreat

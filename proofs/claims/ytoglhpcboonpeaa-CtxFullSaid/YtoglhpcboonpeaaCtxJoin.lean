/-
  The walk of a context's Join.
-/
import Derived.Test.YtoglhpcboonpeaaCtxSort
import Derived.Test.YtoglhpcboonpeaaCtxConcat
import Derived.Test.YtoglhpcboonpeaaCtxJoinM
import Derived.Test.YtoglhpcboonpeaaCtxSame
namespace Go.Proofs.Ytoglhpcboonpeaa
open Go.RowKit
open CtxM
set_option linter.unusedVariables false
set_option linter.unusedSimpArgs false
set_option maxRecDepth 20000

/-- Every cell of a block below B holds in w' what it held. -/
def KeepsB (B : Nat) (w w' : World) : Prop := ∀ (p : Addr) (u : Value), p.block < B → w.cell? p = some u → w'.cell? p = some u
theorem KeepsB.refl (B : Nat) (w : World) : KeepsB B w w := fun _ _ _ h => h
theorem KeepsB.trans {B : Nat} {a b c : World} (h : KeepsB B a b) (k : KeepsB B b c) : KeepsB B a c := fun p u hp hu => k p u hp (h p u hp hu)
theorem KeepsB.of_below {B : Nat} {w w' : World} (h : Below B w w') : KeepsB B w w' := fun p u hp hu => (World.cell?_of_block (h.block p.block hp)).trans hu
theorem KeepsB.range {B : Nat} {w w' : World} {b o : Nat} {cs : List Value} (h : w.rangeAt b o cs) (hb : b < B) (k : KeepsB B w w') : w'.rangeAt b o cs := fun j v hv => k _ _ hb (h j v hv)
theorem Below.of_grown {B : Nat} {w w' : World} {row : Option Nat} (h : w.grownBy w' row) (hB : B ≤ w.heap.size) (hr : ∀ k, row = some k → B ≤ k) : Below B w w' :=
  ⟨h.os, h.tape, h.output, h.size, fun k hk => h.block k (by omega) (fun e => by have := hr k e.symm; omega)⟩

set_option maxHeartbeats 8000000 in
theorem join_any (g h : Nat) (v u : Value) (V V' : List Nat) (X X' : List Dt) (U : List Nat × List Dt) (w : World) (hc : Cx w g v V X) (ho : Cx w h u V' X')
    (hF : Fit U.1 U.2) (hI : ∀ d, In U.1 U.2 d ↔ In V X d ∨ In V' X' d) (hl : X.length ≤ 4096) (hl' : X'.length ≤ 4096) :
    Calls Try.prog 28 #[.pointer (some ⟨g, 0, none⟩), .pointer (some ⟨h, 0, none⟩)] w fun e w' =>
      (U.2.length ≤ 4096 → e = .returned (.int .i64 0) ∧ ∃ v', Cx w' g v' U.1 U.2 ∧ Keep (fun i => i = g) w w' ∧ ∀ j, v'.ownBlock = some j → w.heap.size ≤ j) ∧ (4096 < U.2.length → e = .returned (.int .i64 5) ∧ Below w.heap.size w w') := by
  have hfo : Try.prog.follows .mixedOrders = true := by kernel_rfl
  have hn1 := none_at g true w hc.made
  have hn2 := none_at h true w ho.made
  have Hc := Lib.hid hc
  have Ho := Lib.hid ho
  have HF := Lib.hid hF
  have HI := Lib.hid hI
  have hglt := hc.blk.lt
  have hhlt := ho.blk.lt
  have hcl1 : [X, X'].flatten.length ≤ 900000 := by
    rw [show [X, X'].flatten = X ++ X' by simp, List.length_append]; omega
  have hcl2 : [X, X'].length ≤ 9223372036854775807 := Nat.le_trans (show 2 ≤ 10 by decide) (by decide)
  clear hc ho hI hF
  go_enter Try.func28, Try.ntmps28
  go_wp2_with fail
  refine hn1.mono ?_
  rintro e w1 ⟨rfl, rfl⟩
  go_wp2_with fail
  refine hn2.mono ?_
  rintro e w1 ⟨rfl, rfl⟩
  go_wp2_with fail
  clear hn1 hn2
  refine held_begin hfo ?_
  have Cc := Cx.below Hc.out (Below.refl _ _).drew
  have Co := Cx.below Ho.out (Below.refl _ _).drew
  have Hb1 : Below w1.heap.size w1 w1.drew := (Below.refl _ _).drew
  have hsz : w1.drew.heap.size = w1.heap.size := rfl
  generalize w1.drew = W2 at Cc Co Hb1 hsz ⊢
  have pc := Cc.extra
  have po := Co.extra
  have hsc := Cc.row.sd
  have hso := Co.row.sd
  obtain ⟨A, c, rfl, _⟩ := Cc.row.sd
  obtain ⟨A', c', rfl, _⟩ := Co.row.sd
  refine' wpAnyH_take (i := 0) (oi := ⟨some 14, _, _, _, _, _⟩) (v := _) rfl (by kernel_rfl) (by kernel_rfl) (by kernel_rfl) (fun _ _ _ h => h) (Or.inl ⟨by rfl, ?y0⟩) (Keeps.refl _) ?ry0
  case y0 => (intro w' hSw; go_simp; try rfl)
  try simp only [Act.put, List.setIfInBounds_toArray, List.set_cons_zero, List.set_cons_succ]
  refine' wpAnyH_take (i := 1) (oi := ⟨some 15, _, _, _, _, _⟩) (v := _) rfl (by kernel_rfl) (by kernel_rfl) (by kernel_rfl) (fun _ _ _ h => h) (Or.inl ⟨by rfl, ?y1⟩) (Keeps.refl _) ?ry1
  case y1 => (intro w' hSw; go_simp; try rfl)
  try simp only [Act.put, List.setIfInBounds_toArray, List.set_cons_zero, List.set_cons_succ]
  refine' wpAnyH_take (i := 2) (oi := ⟨some 16, _, _, _, _, _⟩) (v := _) rfl (by kernel_rfl) (by kernel_rfl) (by kernel_rfl) (fun _ _ _ h => h) (Or.inl ⟨by rfl, ?y2⟩) (Keeps.refl _) ?ry2
  case y2 => (intro w' hSw; go_simp; try rfl)
  try simp only [Act.put, List.setIfInBounds_toArray, List.set_cons_zero, List.set_cons_succ]
  refine' wpAnyH_take (i := 3) (oi := ⟨some 17, _, _, _, _, _⟩) (v := _) rfl (by kernel_rfl) (by kernel_rfl) (by kernel_rfl) (fun _ _ _ h => h) (Or.inl ⟨by rfl, ?y3⟩) (Keeps.refl _) ?ry3
  case y3 => (intro w' hSw; have q0 := hSw _ _ pc; go_simp; try rfl)
  try simp only [Act.put, List.setIfInBounds_toArray, List.set_cons_zero, List.set_cons_succ]
  refine' wpAnyH_take (i := 4) (oi := ⟨some 18, _, _, _, _, _⟩) (v := _) rfl (by kernel_rfl) (by kernel_rfl) (by kernel_rfl) (fun _ _ _ h => h) (Or.inl ⟨by rfl, ?y4⟩) (Keeps.refl _) ?ry4
  case y4 => (intro w' hSw; go_simp; try rfl)
  try simp only [Act.put, List.setIfInBounds_toArray, List.set_cons_zero, List.set_cons_succ]
  refine' wpAnyH_take (i := 5) (oi := ⟨some 19, _, _, _, _, _⟩) (v := _) rfl (by kernel_rfl) (by kernel_rfl) (by kernel_rfl) (fun _ _ _ h => h) (Or.inl ⟨by rfl, ?y5⟩) (Keeps.refl _) ?ry5
  case y5 => (intro w' hSw; go_simp; try rfl)
  try simp only [Act.put, List.setIfInBounds_toArray, List.set_cons_zero, List.set_cons_succ]
  refine' wpAnyH_take (i := 6) (oi := ⟨some 20, _, _, _, _, _⟩) (v := _) rfl (by kernel_rfl) (by kernel_rfl) (by kernel_rfl) (fun _ _ _ h => h) (Or.inl ⟨by rfl, ?y6⟩) (Keeps.refl _) ?ry6
  case y6 => (intro w' hSw; go_simp; try rfl)
  try simp only [Act.put, List.setIfInBounds_toArray, List.set_cons_zero, List.set_cons_succ]
  refine' wpAnyH_take (i := 7) (oi := ⟨some 21, _, _, _, _, _⟩) (v := _) rfl (by kernel_rfl) (by kernel_rfl) (by kernel_rfl) (fun _ _ _ h => h) (Or.inl ⟨by rfl, ?y7⟩) (Keeps.refl _) ?ry7
  case y7 => (intro w' hSw; have q0 := hSw _ _ po; go_simp; try rfl)
  try simp only [Act.put, List.setIfInBounds_toArray, List.set_cons_zero, List.set_cons_succ]
  refine held_one (i := 8) (by kernel_rfl) rfl (fun K hK => ?_)
  go_simp
  have k3 : Below W2.heap.size W2 (W2.alloc (.cells #[.slice A X.length c, .slice A' X'.length c'] 22)) := (Below.refl _ _).alloc (Nat.le_refl _) _
  have h2 := Sds.two W2 22 _ _ X X' hsc hso
  rw [hsz] at h2
  have s3 := Keeps.of_below k3
  refine hK.out _ _ s3 (fun _ => ?_)
  clear hK K
  try simp only [Act.put, List.setIfInBounds_toArray, List.set_cons_zero, List.set_cons_succ]
  generalize (W2.alloc (.cells #[.slice A X.length c, .slice A' X'.length c'] 22)) = W3 at k3 h2 s3 ⊢
  refine held_one (i := 9) (by kernel_rfl) rfl (fun K hK => ?_)
  go_simp
  refine (concatD_any _ [X, X'] W3 h2 hcl1 hcl2).mono ?_
  rintro e W4 ⟨v4, rfl, ho4, hb4⟩
  have s4 := s3.trans (Keeps.of_below hb4)
  refine hK.out _ _ s4 (fun _ => ?_)
  clear hK K
  try simp only [Act.put, List.setIfInBounds_toArray, List.set_cons_zero, List.set_cons_succ]
  refine' wpAnyH_take (i := 10) (oi := ⟨some 5, _, _, _, _, _⟩) (v := _) rfl (by kernel_rfl) (by kernel_rfl) (by kernel_rfl) (fun _ _ _ h => h) (Or.inl ⟨by rfl, ?y10⟩) s4 ?ry10
  case y10 => (intro w' hSw; go_simp; try rfl)
  try simp only [Act.put, List.setIfInBounds_toArray, List.set_cons_zero, List.set_cons_succ]
  refine wpAnyH_done (by kernel_rfl) ?_ _
  have hfl : [X, X'].flatten = X ++ X' := by simp
  rw [hfl] at ho4
  have hb5 : Below w1.heap.size w1 W4 := (Hb1.trans (k3.mono (by omega))).trans (hb4.mono (by have := k3.size; omega))
  have ho5 : OwnD W4 w1.heap.size v4 (X ++ X') := ho4.mono (by have := k3.size; omega)
  have hXl : (X ++ X').length ≤ 8192 := by rw [List.length_append]; omega
  clear pc po hsc hso h2 s3 s4 ho4 hb4 k3 hfl Hb1 Cc Co hsz
  go_wp2_with fail
  refine (sort_any v4 (X ++ X') w1.heap.size W4 ho5 (by omega)).mono ?_
  rintro e W5 ⟨rfl, M, ho6, hord, hMl, hMm, hg6⟩
  have hb6 : Below w1.heap.size w1 W5 := ho5.grown hg6 hb5 (Nat.le_refl _) hb5.size
  obtain ⟨A5, n5, c5, rfl⟩ := ho5.shape
  clear ho5 hb5 hg6
  go_upto_region 5 with (fail)
  go_cut [6, 7] from 26 (fun x y wc => ∃ ad A2 c2, x = .pointer (some ⟨ad, 0, none⟩) ∧ y = .slice A2 U.2.length c2 ∧ Blk wc ad 52 (uqs U.1) ∧ OwnD wc w1.heap.size y U.2 ∧ y.ownBlock ≠ some ad ∧ w1.heap.size ≤ ad ∧ Below w1.heap.size w1 wc)
  case first =>
    refine wp_region_held_drew (S := KeepsB w1.heap.size W5.drew) hfo (KeepsB.refl _ _) (fun _ => ?_)
    have hb7 : Below w1.heap.size w1 W5.drew := hb6.drew
    have ho7 : OwnD W5.drew w1.heap.size (.slice A5 n5 c5) M := ho6
    clear ho6 hb6
    generalize W5.drew = R0 at hb7 ho7 ⊢
    have Cc := (Hc.out).kept (S := fun i => w1.heap.size ≤ i) ⟨hb7.os, hb7.tape, hb7.output, hb7.size, fun k hk hn => hb7.block k hk⟩ (fun i hi e => by have := Hc.out.lt i hi; omega)
    have Co := (Ho.out).kept (S := fun i => w1.heap.size ≤ i) ⟨hb7.os, hb7.tape, hb7.output, hb7.size, fun k hk hn => hb7.block k hk⟩ (fun i hi e => by have := Ho.out.lt i hi; omega)
    have rc := Cc.range
    have ro := Co.range
    have hV := Cc.fit.len
    have hV' := Co.fit.len
    have hMle : M.length ≤ 8192 := by omega
    have hfin : ∀ (Q : List Dt), Rise Q → (∀ d, d ∈ Q ↔ d ∈ M) → cp (maxV V V') Q = U := fun Q hQ hm => join_cp Hc.out.fit Ho.out.fit hQ (fun d => by rw [hm, hMm, List.mem_append]) HF.out HI.out
    have hmay : ∀ d ∈ M, May d := fun d hd => by
      rcases List.mem_append.1 ((hMm d).1 hd) with h1 | h1
      · exact Hc.out.fit.may d h1
      · exact Ho.out.fit.may d h1
    have hWl := maxV_length V V'
    have hWle := maxV_le Hc.out.fit.le Ho.out.fit.le
    have HFIN := Lib.hid hfin
    have HMAY := Lib.hid hmay
    have HORD := Lib.hid hord
    have hinf := uqs_info (U := U.1) HF.out.len
    have hone := uqs_one U.1
    clear hfin hmay hMm hord Co
    have hR0 := hb7.size
    refine' wpAnyH_take (i := 0) (oi := ⟨some 27, _, _, _, _, _⟩) (v := _) rfl (by kernel_rfl) (by kernel_rfl) (by kernel_rfl) (fun _ _ _ h => h) (Or.inl ⟨by rfl, ?x0⟩) (KeepsB.refl _ _) ?rx0
    case x0 => (intro w' hSw; go_simp; try rfl)
    try simp only [Act.put, List.setIfInBounds_toArray, List.set_cons_zero, List.set_cons_succ]
    refine' wpAnyH_take (i := 1) (oi := ⟨some 28, _, _, _, _, _⟩) (v := _) rfl (by kernel_rfl) (by kernel_rfl) (by kernel_rfl) (fun _ _ _ h => h) (Or.inl ⟨by rfl, ?x1⟩) (KeepsB.refl _ _) ?rx1
    case x1 => (intro w' hSw; go_simp; try rfl)
    try simp only [Act.put, List.setIfInBounds_toArray, List.set_cons_zero, List.set_cons_succ]
    refine' wpAnyH_take (i := 2) (oi := ⟨some 29, _, _, _, _, _⟩) (v := _) rfl (by kernel_rfl) (by kernel_rfl) (by kernel_rfl) (fun _ _ _ h => h) (Or.inl ⟨by rfl, ?x2⟩) (KeepsB.refl _ _) ?rx2
    case x2 => (intro w' hSw; go_simp; try rfl)
    try simp only [Act.put, List.setIfInBounds_toArray, List.set_cons_zero, List.set_cons_succ]
    refine' wpAnyH_take (i := 3) (oi := ⟨some 30, _, _, _, _, _⟩) (v := _) rfl (by kernel_rfl) (by kernel_rfl) (by kernel_rfl) (fun _ _ _ h => h) (yieldsIf_load_mid (by rfl) 52 (.tmp 29) rfl g 1 rfl (V.map uq) _ (fun w' hSw => KeepsB.range rc hglt hSw) Try.underlying52 rfl (by rw [info_vec, List.length_map, hV])) (KeepsB.refl _ _) ?rx3
    try simp only [Act.put, List.setIfInBounds_toArray, List.set_cons_zero, List.set_cons_succ]
    refine' wpAnyH_take (i := 4) (oi := ⟨some 31, _, _, _, _, _⟩) (v := _) rfl (by kernel_rfl) (by kernel_rfl) (by kernel_rfl) (fun _ _ _ h => h) (Or.inl ⟨by rfl, ?x4⟩) (KeepsB.refl _ _) ?rx4
    case x4 => (intro w' hSw; go_simp; try rfl)
    try simp only [Act.put, List.setIfInBounds_toArray, List.set_cons_zero, List.set_cons_succ]
    refine' wpAnyH_take (i := 5) (oi := ⟨some 32, _, _, _, _, _⟩) (v := _) rfl (by kernel_rfl) (by kernel_rfl) (by kernel_rfl) (fun _ _ _ h => h) (Or.inl ⟨by rfl, ?x5⟩) (KeepsB.refl _ _) ?rx5
    case x5 => (intro w' hSw; go_simp; try rfl)
    try simp only [Act.put, List.setIfInBounds_toArray, List.set_cons_zero, List.set_cons_succ]
    refine' wpAnyH_take (i := 6) (oi := ⟨some 33, _, _, _, _, _⟩) (v := _) rfl (by kernel_rfl) (by kernel_rfl) (by kernel_rfl) (fun _ _ _ h => h) (Or.inl ⟨by rfl, ?x6⟩) (KeepsB.refl _ _) ?rx6
    case x6 => (intro w' hSw; go_simp; try rfl)
    try simp only [Act.put, List.setIfInBounds_toArray, List.set_cons_zero, List.set_cons_succ]
    refine' wpAnyH_take (i := 7) (oi := ⟨some 34, _, _, _, _, _⟩) (v := _) rfl (by kernel_rfl) (by kernel_rfl) (by kernel_rfl) (fun _ _ _ h => h) (yieldsIf_load_mid (by rfl) 52 (.tmp 33) rfl h 1 rfl (V'.map uq) _ (fun w' hSw => KeepsB.range ro hhlt hSw) Try.underlying52 rfl (by rw [info_vec, List.length_map, hV'])) (KeepsB.refl _ _) ?rx7
    try simp only [Act.put, List.setIfInBounds_toArray, List.set_cons_zero, List.set_cons_succ]
    refine' wpAnyH_take (i := 9) (oi := ⟨some 36, _, _, _, _, _⟩) (v := _) rfl (by kernel_rfl) (by kernel_rfl) (by kernel_rfl) (fun _ _ _ h => h) (Or.inl ⟨by rfl, ?x9⟩) (KeepsB.refl _ _) ?rx9
    case x9 => (intro w' hSw; go_simp; try rfl)
    try simp only [Act.put, List.setIfInBounds_toArray, List.set_cons_zero, List.set_cons_succ]
    clear rc ro
    obtain ⟨Z, hZ⟩ : ∃ Z : Array Value, Z = #[.int .u64 0, .int .u64 0, .int .u64 0, .int .u64 0, .int .u64 0, .int .u64 0, .int .u64 0, .int .u64 0, .int .u64 0, .int .u64 0, .int .u64 0, .int .u64 0, .int .u64 0, .int .u64 0, .int .u64 0, .int .u64 0] := ⟨_, rfl⟩
    have hZs : Z.size = 16 := by rw [hZ]; rfl
    have hza := Try.zeroValue52
    rw [← hZ] at hza
    clear hZ
    refine held_two (i := 8) (j := 15) (by kernel_rfl) rfl rfl (fun K hK => ?_) (fun K hK => ?_)
    · go_simp
      refine (greater_any V V' R0 hV hV').mono ?_
      rintro e RG ⟨rfl, hg8⟩
      have bG := hb7.trans (hg8.mono hb7.size)
      have KG := KeepsB.trans (KeepsB.refl w1.heap.size R0) (KeepsB.of_below (hg8.mono hb7.size))
      have rowG := ho7.below hg8
      refine hK.out _ _ KG (fun _ => ?_)
      clear hK K
      try simp only [Act.put, List.setIfInBounds_toArray, List.set_cons_zero, List.set_cons_succ]
      refine held_two (i := 10) (j := 15) (by kernel_rfl) rfl rfl (fun K hK => ?_) (fun K hK => ?_)
      · go_simp
        refine (uniq_any _ M w1.heap.size RG rowG (by omega) HORD.out).mono ?_
        rintro e RQ ⟨v1, Q, rfl, ho1, hQr, hQm, hQl, hgQ⟩
        have bQ : Below w1.heap.size w1 RQ := rowG.grown hgQ bG (Nat.le_refl _) bG.size
        have KQ := KeepsB.trans KG (KeepsB.of_below (Below.of_grown hgQ bG.size (fun k hk => (rowG.lt k hk).1)))
        have hcmp := fun W (hb : Below RQ.heap.size RQ W) => compact_any v1 (maxV V V') Q W (ho1.below hb).sd hWl hWle (by omega) hQr (fun d hd => HMAY.out d ((hQm d).1 hd))
        rw [HFIN.out Q hQr hQm] at hcmp
        obtain ⟨A1, n1, c1, rfl⟩ := ho1.shape
        have hQ0 := Below.refl RQ.heap.size RQ
        refine hK.out _ _ KQ (fun _ => ?_)
        clear hK K
        try simp only [Act.put, List.setIfInBounds_toArray, List.set_cons_zero, List.set_cons_succ]
        refine held_two (i := 11) (j := 15) (by kernel_rfl) rfl rfl (fun K hK => ?_) (fun K hK => ?_)
        · go_simp
          refine (hcmp RQ hQ0).mono ?_
          rintro e RC ⟨v2, rfl, ho2, hgC⟩
          have bC := bQ.trans (hgC.mono bQ.size)
          have KC := KeepsB.trans KQ (KeepsB.of_below (hgC.mono bQ.size))
          obtain ⟨A2, c2, rfl, _⟩ := ho2.sd
          have ho2 := ho2.mono bQ.size
          refine hK.out _ _ KC (fun _ => ?_)
          clear hK K
          try simp only [Act.put, List.setIfInBounds_toArray, List.set_cons_zero, List.set_cons_succ]
          refine' wpAnyH_take (i := 12) (oi := ⟨some 26, _, _, _, _, _⟩) (v := _) rfl (by kernel_rfl) (by kernel_rfl) (by kernel_rfl) (fun _ _ _ h => h) (Or.inl ⟨by rfl, ?t112⟩) KC ?rt112
          case t112 => (intro w' hSw; go_simp; try rfl)
          try simp only [Act.put, List.setIfInBounds_toArray, List.set_cons_zero, List.set_cons_succ]
          refine' wpAnyH_take (i := 13) (oi := ⟨some 39, _, _, _, _, _⟩) (v := _) rfl (by kernel_rfl) (by kernel_rfl) (by kernel_rfl) (fun _ _ _ h => h) (Or.inl ⟨by rfl, ?t113⟩) KC ?rt113
          case t113 => (intro w' hSw; go_simp; try rfl)
          try simp only [Act.put, List.setIfInBounds_toArray, List.set_cons_zero, List.set_cons_succ]
          refine' wpAnyH_take (i := 14) (oi := ⟨some 40, _, _, _, _, _⟩) (v := _) rfl (by kernel_rfl) (by kernel_rfl) (by kernel_rfl) (fun _ _ _ h => h) (Or.inl ⟨by rfl, ?t114⟩) KC ?rt114
          case t114 => (intro w' hSw; go_simp; try rfl)
          try simp only [Act.put, List.setIfInBounds_toArray, List.set_cons_zero, List.set_cons_succ]
          refine held_one (i := 15) (by kernel_rfl) rfl (fun K hK => ?_)
          go_simp
          have bA := bC.alloc bC.size (.cells Z 52)
          have BA := Blk.new RC 52 Z
          have KA := KeepsB.trans KC (KeepsB.of_below ((Below.refl w1.heap.size RC).alloc bC.size (.cells Z 52)))
          have gA := bC.size
          have rowA := ho2.alloc (.cells Z 52)
          have hneq : ∀ k, Value.ownBlock (.slice A2 U.2.length c2) = some k → k ≠ RC.heap.size := fun k hk e => by have := (ho2.lt k hk).2; omega
          refine hK.out _ _ KA (fun _ => ?_)
          clear hK K
          try simp only [Act.put, List.setIfInBounds_toArray, List.set_cons_zero, List.set_cons_succ]
          have hlA := BA.lt
          generalize hAd : RC.heap.size = ad at BA  gA  hneq hlA ⊢
          generalize (RC.alloc (.cells Z 52)) = RA at bA BA KA hlA rowA ⊢
          have hth := BA.there
          rw [show Z.size = (uqs U.1).size by rw [hZs, uqs_size, HF.out.len]] at hth
          have hE := BA.setRow (ds := uqs U.1) (by rw [uqs_size, HF.out.len, hZs])
          have hgE := grown_setCells ad (uqs U.1).toList 0 RA
          have bE := Below.only bA hgE gA bA.size
          have KE := KeepsB.trans KA (KeepsB.of_below (Below.of_grown hgE bA.size (fun k hk => by injection hk with hk; omega)))
          have rowE := rowA.keep (w' := RA.setCells ad 0 (uqs U.1).toList) (fun k hk => hgE.block k (rowA.lt k hk).2 (fun e => by injection e with e; exact hneq k hk e))
          refine held_one (i := 16) (by kernel_rfl) rfl (fun K hK => ?_)
          refine held_wanted rfl (wp_store_mid 52 (.tmp 6) (.tmp 39) rfl ad 0 (uqs U.1) rfl rfl hth hinf hone ?_)
          refine hK.out _ _ KE (fun _ => ?_)
          clear hK K
          try simp only [Act.put, List.setIfInBounds_toArray, List.set_cons_zero, List.set_cons_succ]
          refine' wpAnyH_take (i := 17) (oi := ⟨some 7, _, _, _, _, _⟩) (v := _) rfl (by kernel_rfl) (by kernel_rfl) (by kernel_rfl) (fun _ _ _ h => h) (Or.inl ⟨by rfl, ?f217⟩) KE ?rf217
          case f217 => (intro w' hSw; go_simp; try rfl)
          try simp only [Act.put, List.setIfInBounds_toArray, List.set_cons_zero, List.set_cons_succ]
          refine wpAnyH_done (by kernel_rfl) ?_ _
          go_wp2_with fail
          go_meet
          exact ⟨ad, A2, c2, rfl, rfl, hE, rowE, fun e => hneq ad e rfl, gA, bE⟩
        · go_simp
          have bA := bQ.alloc bQ.size (.cells Z 52)
          have BA := Blk.new RQ 52 Z
          have KA := KeepsB.trans KQ (KeepsB.of_below ((Below.refl w1.heap.size RQ).alloc bQ.size (.cells Z 52)))
          have gA := bQ.size
          have hQ1 := hQ0.alloc hQ0.size (.cells Z 52)
          refine hK.out _ _ KA (fun _ => ?_)
          clear hK K
          try simp only [Act.put, List.setIfInBounds_toArray, List.set_cons_zero, List.set_cons_succ]
          have hlA := BA.lt
          generalize hAd : RQ.heap.size = ad at BA  gA hlA ⊢
          generalize (RQ.alloc (.cells Z 52)) = RA at bA BA KA hlA hQ1 ⊢
          refine held_one (i := 11) (by kernel_rfl) rfl (fun K hK => ?_)
          go_simp
          refine (hcmp RA hQ1).mono ?_
          rintro e RC ⟨v2, rfl, ho2, hgC⟩
          have bC := bA.trans (hgC.mono bA.size)
          have KC := KeepsB.trans KA (KeepsB.of_below (hgC.mono bA.size))
          obtain ⟨A2, c2, rfl, _⟩ := ho2.sd
          have BC := BA.below hgC BA.lt
          have hneq : ∀ k, Value.ownBlock (.slice A2 U.2.length c2) = some k → k ≠ ad := fun k hk e => by have h1 := (ho2.lt k hk).1; have h2 := BA.lt; omega
          have ho2 := ho2.mono bA.size
          refine hK.out _ _ KC (fun _ => ?_)
          clear hK K
          try simp only [Act.put, List.setIfInBounds_toArray, List.set_cons_zero, List.set_cons_succ]
          refine' wpAnyH_take (i := 12) (oi := ⟨some 26, _, _, _, _, _⟩) (v := _) rfl (by kernel_rfl) (by kernel_rfl) (by kernel_rfl) (fun _ _ _ h => h) (Or.inl ⟨by rfl, ?t312⟩) KC ?rt312
          case t312 => (intro w' hSw; go_simp; try rfl)
          try simp only [Act.put, List.setIfInBounds_toArray, List.set_cons_zero, List.set_cons_succ]
          refine' wpAnyH_take (i := 13) (oi := ⟨some 39, _, _, _, _, _⟩) (v := _) rfl (by kernel_rfl) (by kernel_rfl) (by kernel_rfl) (fun _ _ _ h => h) (Or.inl ⟨by rfl, ?t313⟩) KC ?rt313
          case t313 => (intro w' hSw; go_simp; try rfl)
          try simp only [Act.put, List.setIfInBounds_toArray, List.set_cons_zero, List.set_cons_succ]
          refine' wpAnyH_take (i := 14) (oi := ⟨some 40, _, _, _, _, _⟩) (v := _) rfl (by kernel_rfl) (by kernel_rfl) (by kernel_rfl) (fun _ _ _ h => h) (Or.inl ⟨by rfl, ?t314⟩) KC ?rt314
          case t314 => (intro w' hSw; go_simp; try rfl)
          try simp only [Act.put, List.setIfInBounds_toArray, List.set_cons_zero, List.set_cons_succ]
          have hth := BC.there
          rw [show Z.size = (uqs U.1).size by rw [hZs, uqs_size, HF.out.len]] at hth
          have hE := BC.setRow (ds := uqs U.1) (by rw [uqs_size, HF.out.len, hZs])
          have hgE := grown_setCells ad (uqs U.1).toList 0 RC
          have bE := Below.only bC hgE gA bC.size
          have KE := KeepsB.trans KC (KeepsB.of_below (Below.of_grown hgE bC.size (fun k hk => by injection hk with hk; omega)))
          have rowE := ho2.keep (w' := RC.setCells ad 0 (uqs U.1).toList) (fun k hk => hgE.block k (ho2.lt k hk).2 (fun e => by injection e with e; exact hneq k hk e))
          refine held_one (i := 16) (by kernel_rfl) rfl (fun K hK => ?_)
          refine held_wanted rfl (wp_store_mid 52 (.tmp 6) (.tmp 39) rfl ad 0 (uqs U.1) rfl rfl hth hinf hone ?_)
          refine hK.out _ _ KE (fun _ => ?_)
          clear hK K
          try simp only [Act.put, List.setIfInBounds_toArray, List.set_cons_zero, List.set_cons_succ]
          refine' wpAnyH_take (i := 17) (oi := ⟨some 7, _, _, _, _, _⟩) (v := _) rfl (by kernel_rfl) (by kernel_rfl) (by kernel_rfl) (fun _ _ _ h => h) (Or.inl ⟨by rfl, ?f417⟩) KE ?rf417
          case f417 => (intro w' hSw; go_simp; try rfl)
          try simp only [Act.put, List.setIfInBounds_toArray, List.set_cons_zero, List.set_cons_succ]
          refine wpAnyH_done (by kernel_rfl) ?_ _
          go_wp2_with fail
          go_meet
          exact ⟨ad, A2, c2, rfl, rfl, hE, rowE, fun e => hneq ad e rfl, gA, bE⟩
      · go_simp
        have bA := bG.alloc bG.size (.cells Z 52)
        have BA := Blk.new RG 52 Z
        have KA := KeepsB.trans KG (KeepsB.of_below ((Below.refl w1.heap.size RG).alloc bG.size (.cells Z 52)))
        have gA := bG.size
        have rowA := rowG.alloc (.cells Z 52)
        have hnr : ∀ k, Value.ownBlock (.slice A5 n5 c5) = some k → k ≠ RG.heap.size := fun k hk e => by have := (rowG.lt k hk).2; omega
        refine hK.out _ _ KA (fun _ => ?_)
        clear hK K
        try simp only [Act.put, List.setIfInBounds_toArray, List.set_cons_zero, List.set_cons_succ]
        have hlA := BA.lt
        generalize hAd : RG.heap.size = ad at BA  gA  hnr hlA ⊢
        generalize (RG.alloc (.cells Z 52)) = RA at bA BA KA hlA rowA ⊢
        refine held_one (i := 10) (by kernel_rfl) rfl (fun K hK => ?_)
        go_simp
        refine (uniq_any _ M w1.heap.size RA rowA (by omega) HORD.out).mono ?_
        rintro e RQ ⟨v1, Q, rfl, ho1, hQr, hQm, hQl, hgQ⟩
        have bQ : Below w1.heap.size w1 RQ := rowA.grown hgQ bA (Nat.le_refl _) bA.size
        have KQ := KeepsB.trans KA (KeepsB.of_below (Below.of_grown hgQ bA.size (fun k hk => (rowA.lt k hk).1)))
        have BQ := BA.grown hgQ (fun e => hnr ad e.symm rfl)
        have hcmp := fun W (hb : Below RQ.heap.size RQ W) => compact_any v1 (maxV V V') Q W (ho1.below hb).sd hWl hWle (by omega) hQr (fun d hd => HMAY.out d ((hQm d).1 hd))
        rw [HFIN.out Q hQr hQm] at hcmp
        obtain ⟨A1, n1, c1, rfl⟩ := ho1.shape
        have hQ0 := Below.refl RQ.heap.size RQ
        refine hK.out _ _ KQ (fun _ => ?_)
        clear hK K
        try simp only [Act.put, List.setIfInBounds_toArray, List.set_cons_zero, List.set_cons_succ]
        refine held_one (i := 11) (by kernel_rfl) rfl (fun K hK => ?_)
        go_simp
        refine (hcmp RQ hQ0).mono ?_
        rintro e RC ⟨v2, rfl, ho2, hgC⟩
        have bC := bQ.trans (hgC.mono bQ.size)
        have KC := KeepsB.trans KQ (KeepsB.of_below (hgC.mono bQ.size))
        obtain ⟨A2, c2, rfl, _⟩ := ho2.sd
        have BC := BQ.below hgC BQ.lt
        have hneq : ∀ k, Value.ownBlock (.slice A2 U.2.length c2) = some k → k ≠ ad := fun k hk e => by have h1 := (ho2.lt k hk).1; have h2 := BQ.lt; omega
        have ho2 := ho2.mono bQ.size
        refine hK.out _ _ KC (fun _ => ?_)
        clear hK K
        try simp only [Act.put, List.setIfInBounds_toArray, List.set_cons_zero, List.set_cons_succ]
        refine' wpAnyH_take (i := 12) (oi := ⟨some 26, _, _, _, _, _⟩) (v := _) rfl (by kernel_rfl) (by kernel_rfl) (by kernel_rfl) (fun _ _ _ h => h) (Or.inl ⟨by rfl, ?t512⟩) KC ?rt512
        case t512 => (intro w' hSw; go_simp; try rfl)
        try simp only [Act.put, List.setIfInBounds_toArray, List.set_cons_zero, List.set_cons_succ]
        refine' wpAnyH_take (i := 13) (oi := ⟨some 39, _, _, _, _, _⟩) (v := _) rfl (by kernel_rfl) (by kernel_rfl) (by kernel_rfl) (fun _ _ _ h => h) (Or.inl ⟨by rfl, ?t513⟩) KC ?rt513
        case t513 => (intro w' hSw; go_simp; try rfl)
        try simp only [Act.put, List.setIfInBounds_toArray, List.set_cons_zero, List.set_cons_succ]
        refine' wpAnyH_take (i := 14) (oi := ⟨some 40, _, _, _, _, _⟩) (v := _) rfl (by kernel_rfl) (by kernel_rfl) (by kernel_rfl) (fun _ _ _ h => h) (Or.inl ⟨by rfl, ?t514⟩) KC ?rt514
        case t514 => (intro w' hSw; go_simp; try rfl)
        try simp only [Act.put, List.setIfInBounds_toArray, List.set_cons_zero, List.set_cons_succ]
        have hth := BC.there
        rw [show Z.size = (uqs U.1).size by rw [hZs, uqs_size, HF.out.len]] at hth
        have hE := BC.setRow (ds := uqs U.1) (by rw [uqs_size, HF.out.len, hZs])
        have hgE := grown_setCells ad (uqs U.1).toList 0 RC
        have bE := Below.only bC hgE gA bC.size
        have KE := KeepsB.trans KC (KeepsB.of_below (Below.of_grown hgE bC.size (fun k hk => by injection hk with hk; omega)))
        have rowE := ho2.keep (w' := RC.setCells ad 0 (uqs U.1).toList) (fun k hk => hgE.block k (ho2.lt k hk).2 (fun e => by injection e with e; exact hneq k hk e))
        refine held_one (i := 16) (by kernel_rfl) rfl (fun K hK => ?_)
        refine held_wanted rfl (wp_store_mid 52 (.tmp 6) (.tmp 39) rfl ad 0 (uqs U.1) rfl rfl hth hinf hone ?_)
        refine hK.out _ _ KE (fun _ => ?_)
        clear hK K
        try simp only [Act.put, List.setIfInBounds_toArray, List.set_cons_zero, List.set_cons_succ]
        refine' wpAnyH_take (i := 17) (oi := ⟨some 7, _, _, _, _, _⟩) (v := _) rfl (by kernel_rfl) (by kernel_rfl) (by kernel_rfl) (fun _ _ _ h => h) (Or.inl ⟨by rfl, ?f617⟩) KE ?rf617
        case f617 => (intro w' hSw; go_simp; try rfl)
        try simp only [Act.put, List.setIfInBounds_toArray, List.set_cons_zero, List.set_cons_succ]
        refine wpAnyH_done (by kernel_rfl) ?_ _
        go_wp2_with fail
        go_meet
        exact ⟨ad, A2, c2, rfl, rfl, hE, rowE, fun e => hneq ad e rfl, gA, bE⟩
    · go_simp
      have bA := hb7.alloc hb7.size (.cells Z 52)
      have BA := Blk.new R0 52 Z
      have KA := KeepsB.trans (KeepsB.refl w1.heap.size R0) (KeepsB.of_below ((Below.refl w1.heap.size R0).alloc hb7.size (.cells Z 52)))
      have gA := hb7.size
      have rowA := ho7.alloc (.cells Z 52)
      have hnr : ∀ k, Value.ownBlock (.slice A5 n5 c5) = some k → k ≠ R0.heap.size := fun k hk e => by have := (ho7.lt k hk).2; omega
      refine hK.out _ _ KA (fun _ => ?_)
      clear hK K
      try simp only [Act.put, List.setIfInBounds_toArray, List.set_cons_zero, List.set_cons_succ]
      have hlA := BA.lt
      generalize hAd : R0.heap.size = ad at BA  gA  hnr hlA ⊢
      generalize (R0.alloc (.cells Z 52)) = RA at bA BA KA hlA rowA ⊢
      refine held_one (i := 8) (by kernel_rfl) rfl (fun K hK => ?_)
      go_simp
      refine (greater_any V V' RA hV hV').mono ?_
      rintro e RG ⟨rfl, hg8⟩
      have bG := bA.trans (hg8.mono bA.size)
      have KG := KeepsB.trans KA (KeepsB.of_below (hg8.mono bA.size))
      have rowG := rowA.below hg8
      have BG := BA.below hg8 BA.lt
      refine hK.out _ _ KG (fun _ => ?_)
      clear hK K
      try simp only [Act.put, List.setIfInBounds_toArray, List.set_cons_zero, List.set_cons_succ]
      refine held_one (i := 10) (by kernel_rfl) rfl (fun K hK => ?_)
      go_simp
      refine (uniq_any _ M w1.heap.size RG rowG (by omega) HORD.out).mono ?_
      rintro e RQ ⟨v1, Q, rfl, ho1, hQr, hQm, hQl, hgQ⟩
      have bQ : Below w1.heap.size w1 RQ := rowG.grown hgQ bG (Nat.le_refl _) bG.size
      have KQ := KeepsB.trans KG (KeepsB.of_below (Below.of_grown hgQ bG.size (fun k hk => (rowG.lt k hk).1)))
      have BQ := BG.grown hgQ (fun e => hnr ad e.symm rfl)
      have hcmp := fun W (hb : Below RQ.heap.size RQ W) => compact_any v1 (maxV V V') Q W (ho1.below hb).sd hWl hWle (by omega) hQr (fun d hd => HMAY.out d ((hQm d).1 hd))
      rw [HFIN.out Q hQr hQm] at hcmp
      obtain ⟨A1, n1, c1, rfl⟩ := ho1.shape
      have hQ0 := Below.refl RQ.heap.size RQ
      refine hK.out _ _ KQ (fun _ => ?_)
      clear hK K
      try simp only [Act.put, List.setIfInBounds_toArray, List.set_cons_zero, List.set_cons_succ]
      refine held_one (i := 11) (by kernel_rfl) rfl (fun K hK => ?_)
      go_simp
      refine (hcmp RQ hQ0).mono ?_
      rintro e RC ⟨v2, rfl, ho2, hgC⟩
      have bC := bQ.trans (hgC.mono bQ.size)
      have KC := KeepsB.trans KQ (KeepsB.of_below (hgC.mono bQ.size))
      obtain ⟨A2, c2, rfl, _⟩ := ho2.sd
      have BC := BQ.below hgC BQ.lt
      have hneq : ∀ k, Value.ownBlock (.slice A2 U.2.length c2) = some k → k ≠ ad := fun k hk e => by have h1 := (ho2.lt k hk).1; have h2 := BQ.lt; omega
      have ho2 := ho2.mono bQ.size
      refine hK.out _ _ KC (fun _ => ?_)
      clear hK K
      try simp only [Act.put, List.setIfInBounds_toArray, List.set_cons_zero, List.set_cons_succ]
      refine' wpAnyH_take (i := 12) (oi := ⟨some 26, _, _, _, _, _⟩) (v := _) rfl (by kernel_rfl) (by kernel_rfl) (by kernel_rfl) (fun _ _ _ h => h) (Or.inl ⟨by rfl, ?t712⟩) KC ?rt712
      case t712 => (intro w' hSw; go_simp; try rfl)
      try simp only [Act.put, List.setIfInBounds_toArray, List.set_cons_zero, List.set_cons_succ]
      refine' wpAnyH_take (i := 13) (oi := ⟨some 39, _, _, _, _, _⟩) (v := _) rfl (by kernel_rfl) (by kernel_rfl) (by kernel_rfl) (fun _ _ _ h => h) (Or.inl ⟨by rfl, ?t713⟩) KC ?rt713
      case t713 => (intro w' hSw; go_simp; try rfl)
      try simp only [Act.put, List.setIfInBounds_toArray, List.set_cons_zero, List.set_cons_succ]
      refine' wpAnyH_take (i := 14) (oi := ⟨some 40, _, _, _, _, _⟩) (v := _) rfl (by kernel_rfl) (by kernel_rfl) (by kernel_rfl) (fun _ _ _ h => h) (Or.inl ⟨by rfl, ?t714⟩) KC ?rt714
      case t714 => (intro w' hSw; go_simp; try rfl)
      try simp only [Act.put, List.setIfInBounds_toArray, List.set_cons_zero, List.set_cons_succ]
      have hth := BC.there
      rw [show Z.size = (uqs U.1).size by rw [hZs, uqs_size, HF.out.len]] at hth
      have hE := BC.setRow (ds := uqs U.1) (by rw [uqs_size, HF.out.len, hZs])
      have hgE := grown_setCells ad (uqs U.1).toList 0 RC
      have bE := Below.only bC hgE gA bC.size
      have KE := KeepsB.trans KC (KeepsB.of_below (Below.of_grown hgE bC.size (fun k hk => by injection hk with hk; omega)))
      have rowE := ho2.keep (w' := RC.setCells ad 0 (uqs U.1).toList) (fun k hk => hgE.block k (ho2.lt k hk).2 (fun e => by injection e with e; exact hneq k hk e))
      refine held_one (i := 16) (by kernel_rfl) rfl (fun K hK => ?_)
      refine held_wanted rfl (wp_store_mid 52 (.tmp 6) (.tmp 39) rfl ad 0 (uqs U.1) rfl rfl hth hinf hone ?_)
      refine hK.out _ _ KE (fun _ => ?_)
      clear hK K
      try simp only [Act.put, List.setIfInBounds_toArray, List.set_cons_zero, List.set_cons_succ]
      refine' wpAnyH_take (i := 17) (oi := ⟨some 7, _, _, _, _, _⟩) (v := _) rfl (by kernel_rfl) (by kernel_rfl) (by kernel_rfl) (fun _ _ _ h => h) (Or.inl ⟨by rfl, ?f817⟩) KE ?rf817
      case f817 => (intro w' hSw; go_simp; try rfl)
      try simp only [Act.put, List.setIfInBounds_toArray, List.set_cons_zero, List.set_cons_succ]
      refine wpAnyH_done (by kernel_rfl) ?_ _
      go_wp2_with fail
      go_meet
      exact ⟨ad, A2, c2, rfl, rfl, hE, rowE, fun e => hneq ad e rfl, gA, bE⟩
  obtain ⟨ad, A2, c2, rfl, rfl, hE, rowE, hneq, gA, bE⟩ := hcut
  have hCE : Cx wc g _ V X := (Hc.out).kept (S := fun i => w1.heap.size ≤ i) ⟨bE.os, bE.tape, bE.output, bE.size, fun k hk hn => bE.block k hk⟩ (fun i hi e => by have := Hc.out.lt i hi; omega)
  by_cases hfull : U.2.length ≤ 4096
  · have hfi : ¬ ((4096 : Int) < (U.2.length : Int)) := by omega
    have hinf := uqs_info (U := U.1) HF.out.len
    have hone := uqs_one U.1
    have hth := blk_thereVec hCE.blk hCE.fit.len HF.out.len
    have hB7 := blk_setVec hCE.blk hCE.fit.len HF.out.len
    have hg7 := grown_setCells g (uqs U.1).toList 1 wc
    have ho7 : OwnD (wc.setCells g 1 (uqs U.1).toList) w1.heap.size (.slice A2 U.2.length c2) U.2 := rowE.keep fun i hi => hg7.block i (rowE.lt i hi).2 (fun e => by injection e with e; have := (rowE.lt i hi).1; omega)
    have hk7 : Keep (fun i => i = g) w1 (wc.setCells g 1 (uqs U.1).toList) := (Keep.of_below (S := fun i => i = g) bE).trans (Keep.of_grown (S := fun i => i = g) hg7 (fun i hi => by injection hi with hi; exact hi.symm)) (fun _ h => h) (fun _ _ h => h)
    have f7 := hB7.frozen 17
    have q7 := cxc_extra hB7 HF.out.len
    have hB8 := blk_setExtra hB7 HF.out.len (.slice A2 U.2.length c2)
    go_wp2_with (first | (refine wpList_load_row rfl 52 _ rfl ad rfl 52 (uqs U.1) (0, 0) _ hE Try.underlying52 rfl hinf ?_) | (refine wpList_store_mid rfl 52 _ _ rfl g 1 (uqs U.1) rfl rfl hth hinf hone ?_))
    go_ret
    refine ⟨⟨rfl, .slice A2 U.2.length c2, ⟨hB8, ?_, fun e => ?_, HF.out⟩, hk7.trans (Keep.setCell (S := fun i => i = g) _ ⟨g, 17, none⟩ _ rfl) (fun _ h => h) (fun _ _ h => h), fun j hj => (ho7.lt j hj).1⟩, fun h => absurd h (by omega)⟩
    · exact (ho7.mono (Nat.zero_le _)).keep fun i hi => Below.heap_setCell _ _ _ i (fun e => by have h1 := (ho7.lt i hi).1; have h2 : i = g := e; omega)
    · have := (ho7.lt g e).1; omega
  · have hfi : (4096 : Int) < (U.2.length : Int) := by omega
    go_wp2
    go_ret
    exact ⟨fun h => absurd h hfull, fun _ => ⟨rfl, bE⟩⟩
end Go.Proofs.Ytoglhpcboonpeaa

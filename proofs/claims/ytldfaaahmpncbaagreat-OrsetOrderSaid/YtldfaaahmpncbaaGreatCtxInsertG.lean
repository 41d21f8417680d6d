/-
  The walk of slices.Insert at dots, where there is no room, and at the end; all of it.
-/
import Derived.Test.YtldfaaahmpncbaaGreatCtxInsert
namespace Go.Proofs.YtldfaaahmpncbaaGreat
open Go.RowKit
open CtxM
open Go.Lib
set_option linter.unusedVariables false
set_option linter.unusedSimpArgs false

set_option maxHeartbeats 4000000 in
set_option maxRecDepth 100000 in
/-- There is no room, and the place is not the end: a new row. -/
theorem insert_grow (g cap : Nat) (cur : Array Value) (X : List Dt) (i vb vc : Nat) (d : Dt) (w : World) (hi : i < X.length) (hnc : X.length ≤ cap) (hroom : cap < X.length + 1) (hB : Blk w g 41 cur) (hsz : cur.size = cap * 2) (htk : cur.toList.take (X.length * 2) = dvs X)
    (hV : Blk w vb 41 #[.int .i64 d.1, .int .u64 (d.2 : Int)]) (hl : X.length ≤ 100000) :
    Calls Tryz.prog 85 #[.slice (some ⟨g, 0, none⟩) X.length cap, .int .i64 (i : Int), .slice (some ⟨vb, 0, none⟩) 1 vc] w fun e w' =>
      ∃ G Z, X.length + 1 ≤ G ∧ G ≤ maxLen ∧ (Z : List Value).length + i * 2 = G * 2 ∧ e = .returned (.slice (some ⟨w.heap.size, 0, none⟩) (X.length + 1) G) ∧ Blk w' w.heap.size 41 (lay (lay (dvs (X.take i) ++ Z) (i * 2) (dv d)) ((i + 1) * 2) (dvs (X.drop i))).toArray ∧ Below w.heap.size w w' := by
  obtain ⟨i0, hi0, hz0, hz1, hz2⟩ := info_parts info_dot
  have hs2 : (Tryz.prog.info? 41).map (·.size) = some 2 := by rw [hi0]; simp [hz1]
  have mixed : Tryz.prog.follows .mixedOrders = true := by kernel_rfl
  have hcg : ∀ j v, (dvs X)[j]? = some v → w.cell? ⟨g, j, none⟩ = some v := fun j v hj => by
    have hjl := (List.getElem?_eq_some_iff.1 hj).1
    rw [dvs_length] at hjl
    rw [hB.cell, ← Array.getElem?_toList]
    rw [← htk, List.getElem?_take, if_pos hjl] at hj
    exact hj
  have hdl := dvs_length (X.drop i)
  rw [List.length_drop] at hdl
  have htl := dvs_length (X.take i)
  rw [List.length_take, Nat.min_eq_left (by omega)] at htl
  have hold : (Builtin.firstCells i0.size i (.slice (some ⟨g, 0, none⟩) i cap)).run Tryz.prog w.drew = .ok (dvs (X.take i)).toArray w.drew := by
    rw [hz1]
    exact run_firstCells_some w.drew 2 i ⟨g, 0, none⟩ i cap (dvs (X.take i)) htl (fun j v hj => by
      rw [add_plain, Nat.zero_add]
      rw [← dvs_take, List.getElem?_take] at hj
      split at hj
      · exact hcg j v hj
      · cases hj)
  have hkk : (X.length : Int) + 1 - (i : Int) = ((X.length + 1 - i : Nat) : Int) := by omega
  have hik : i + (X.length + 1 - i) = X.length + 1 := by omega
  obtain ⟨G, hG⟩ : ∃ G, G = grownCap w (X.length + 1) cap 41 := ⟨_, rfl⟩
  have hGn : X.length + 1 ≤ G := by rw [hG]; exact grownCap_ge w _ _ _
  have hGm : G ≤ maxLen := by rw [hG]; exact grownCap_le_maxLen w _ cap _ (by unfold maxLen; omega)
  have hG63 : G ≤ 9223372036854775807 := by unfold maxLen at hGm; omega
  obtain ⟨Z, hZ⟩ : ∃ Z : List Value, Z.toArray = Builtin.zeroCells (Value.agg #[.int .i64 0, .int .u64 0]).cells (X.length + 1 - i) ++ Builtin.zeroCells (Value.agg #[.int .i64 0, .int .u64 0]).cells (G - (X.length + 1)) := ⟨(Builtin.zeroCells (Value.agg #[.int .i64 0, .int .u64 0]).cells (X.length + 1 - i) ++ Builtin.zeroCells (Value.agg #[.int .i64 0, .int .u64 0]).cells (G - (X.length + 1))).toList, by simp⟩
  have hZl : Z.length + i * 2 = G * 2 := by
    have : Z.length = (Z.toArray).size := by simp
    rw [this, hZ, Array.size_append, size_zeroCells, size_zeroCells]
    show (X.length + 1 - i) * 2 + (G - (X.length + 1)) * 2 + i * 2 = G * 2
    omega
  have hrz : ∀ ty, (Builtin.append_ #[30, 3] ty #[.slice (some ⟨g, 0, none⟩) i cap, .int .i64 ((X.length : Int) + 1 - (i : Int))]).run Tryz.prog w =
      .ok (.slice (some ⟨w.heap.size, 0, none⟩) (X.length + 1) G) (w.drew.alloc (.cells (dvs (X.take i) ++ Z).toArray 41)) := fun ty => by
    have h := Lib.run_append_grow_zeros w 30 3 ty 41 i0 _ .i64 .i64 Tryz.underlying30 Tryz.underlying3 hi0 hz0 (some ⟨g, 0, none⟩) i cap (dvs (X.take i)) hold (X.length + 1 - i) (by omega) (by omega) (by omega) (by omega) (by rw [hz2]; omega) (by rw [hz2, hik]; exact growslice_fits hroom (by omega))
    rw [hik, ← hG, Array.append_assoc, ← hZ] at h
    rw [hkk, h]
    simp
  have hC0 : (dvs (X.take i) ++ Z).length = G * 2 := by rw [List.length_append, htl]; omega
  obtain ⟨W1, hW1⟩ : ∃ W1, W1 = w.drew.alloc (.cells (dvs (X.take i) ++ Z).toArray 41) := ⟨_, rfl⟩
  have hN : Blk W1 w.heap.size 41 (dvs (X.take i) ++ Z).toArray := by rw [hW1]; exact Blk.new w.drew _ _
  have hbw : Below w.heap.size w W1 := by rw [hW1]; exact below_drewN ((Below.refl w.heap.size w).alloc (Nat.le_refl _) _) 1
  have hg1 : Blk W1 g 41 cur := hB.below hbw hB.lt
  have hV1 : Blk W1 vb 41 #[.int .i64 d.1, .int .u64 (d.2 : Int)] := hV.below hbw hV.lt
  have hcpA : ∀ (W : World), (∀ x, W.heap[x]? = W1.heap[x]?) → ∀ ty dc, (Builtin.copy_ #[30, 30] ty #[.slice (some ⟨w.heap.size, i * 2, none⟩) (X.length + 1 - i) dc, .slice (some ⟨vb, 0, none⟩) 1 vc]).run Tryz.prog W = .ok (goInt ((1 : Nat) : Int)) (W.setCells w.heap.size (i * 2) (dv d)) := fun W hW ty dc => by
    have hNW : Blk W w.heap.size 41 (dvs (X.take i) ++ Z).toArray := (hW _).trans hN
    have hVW : Blk W vb 41 #[.int .i64 d.1, .int .u64 (d.2 : Int)] := (hW _).trans hV1
    exact run_copy_two W _ _ ty 41 w.heap.size (i * 2) (X.length + 1 - i) dc ⟨vb, 0, none⟩ 1 vc 1 (dv d) Tryz.underlying30 hs2 (by simp only [Nat.min_def]; split <;> omega) rfl
      (fun j v hj => by
        rw [add_plain, Nat.zero_add, hVW.cell]
        show (dv d).toArray[j]? = _
        rw [List.getElem?_toArray]
        exact hj)
      (fun j hj => by
        have : j < 2 := hj
        rw [hNW.cell, Array.getElem?_eq_getElem (by rw [List.size_toArray]; omega)]; rfl) (fun j hj => hNW.frozen _) (fun v hv => by simp [dv] at hv; rcases hv with rfl | rfl <;> rfl)
  obtain ⟨W2, hW2⟩ : ∃ W2, W2 = W1.setCells w.heap.size (i * 2) (dv d) := ⟨_, rfl⟩
  have hN2 : Blk W2 w.heap.size 41 (lay (dvs (X.take i) ++ Z) (i * 2) (dv d)).toArray := by
    rw [hW2]
    have := hN.lay_ (i * 2) (dv d) (by rw [List.size_toArray, hC0]; simp [dv]; omega)
    simpa using this
  have hly := lay_length (l := dvs (X.take i) ++ Z) (o := i * 2) (vs := dv d) (by rw [hC0]; simp [dv]; omega)
  have hg2 : Blk W2 g 41 cur := by
    rw [hW2]
    exact hg1.grown (grown_setCells _ _ _ _) (by have := hB.lt; intro e; injection e with e; omega)
  have hcpB : ∀ (W : World), (∀ x, W.heap[x]? = W2.heap[x]?) → ∀ ty dc sc, (Builtin.copy_ #[30, 30] ty #[.slice (some ⟨w.heap.size, (i + 1) * 2, none⟩) (X.length - i) dc, .slice (some ⟨g, i * 2, none⟩) (X.length - i) sc]).run Tryz.prog W = .ok (goInt ((X.length - i : Nat) : Int)) (W.setCells w.heap.size ((i + 1) * 2) (dvs (X.drop i))) := fun W hW ty dc sc => by
    have hNW : Blk W w.heap.size 41 (lay (dvs (X.take i) ++ Z) (i * 2) (dv d)).toArray := (hW _).trans hN2
    have hGW : Blk W g 41 cur := (hW _).trans hg2
    exact run_copy_two W _ _ ty 41 w.heap.size ((i + 1) * 2) (X.length - i) dc ⟨g, i * 2, none⟩ (X.length - i) sc (X.length - i) (dvs (X.drop i)) Tryz.underlying30 hs2 (by simp only [Nat.min_def]; split <;> omega) hdl
      (fun j v hj => by
        rw [add_plain, hGW.cell, ← hB.cell]
        refine hcg _ _ ?_
        rw [← dvs_drop, List.getElem?_drop] at hj
        exact hj)
      (fun j hj => by
        rw [hNW.cell, Array.getElem?_eq_getElem (by rw [List.size_toArray]; omega)]; rfl) (fun j hj => hNW.frozen _) (dvs_one _)
  have hend : ∀ W : World, (∀ x, W.heap[x]? = W2.heap[x]?) → Blk (W.setCells w.heap.size ((i + 1) * 2) (dvs (X.drop i))) w.heap.size 41 (lay (lay (dvs (X.take i) ++ Z) (i * 2) (dv d)) ((i + 1) * 2) (dvs (X.drop i))).toArray := fun W hW => by
    have hNW : Blk W w.heap.size 41 (lay (dvs (X.take i) ++ Z) (i * 2) (dv d)).toArray := (hW _).trans hN2
    have := hNW.lay_ ((i + 1) * 2) (dvs (X.drop i)) (by rw [List.size_toArray]; omega)
    simpa using this
  subst hW2
  subst hW1
  have hE1 : ∀ x : Nat, ((w.alloc (.cells (dvs (X.take i) ++ Z).toArray 41)).drew).heap[x]? = (w.drew.alloc (.cells (dvs (X.take i) ++ Z).toArray 41)).heap[x]? := fun x => rfl
  have hF1 : ∀ x : Nat, (((w.alloc (.cells (dvs (X.take i) ++ Z).toArray 41)).drew.setCells w.heap.size (i * 2) (dv d)).drew).heap[x]? = ((w.drew.alloc (.cells (dvs (X.take i) ++ Z).toArray 41)).setCells w.heap.size (i * 2) (dv d)).heap[x]? := fun x => rfl
  have hw1 : IntKind.i64.wrap ((i : Int) + 1) = (i : Int) + 1 := by rw [IntKind.wrap_i64]; omega
  have hb1 : (0 : Int) ≤ (i : Int) + 1 := by omega
  have hin : i ≤ X.length := by omega
  have hb3 : (i : Int) ≤ (X.length : Int) + 1 := by omega
  have hb5 : (i : Int) + 1 ≤ (X.length : Int) + 1 := by omega
  have h1 : ¬ ((i : Int) = (X.length : Int)) := by omega
  have h3 : (cap : Int) < (X.length : Int) + 1 := by omega
  have h4 : ¬ (cap = i) := by omega
  have h5 : ¬ (G = i + 1) := by omega
  have h8 : ¬ (G = i) := by omega
  have h6 : ((i : Int) + 1).toNat = i + 1 := by omega
  clear hcg hdl htk hkk hik hold hZ htl hC0 hly hN hN2 hg1 hg2 hV1 hbw hG
  go_enter Tryz.func85, Tryz.ntmps85
  go_wp2_with (first
    | (at_builtin; refine Lib.wpList_append_run _ rfl _ _ _ _ rfl _ _ rfl rfl _ _ (hrz _) ?_)
    | (at_builtin; refine wpList_copy_runI _ rfl _ _ 30 30 rfl _ _ rfl rfl (hcpA _ hE1 _ _) ?_))
  go_region_law_o (refine step_copy_runI rfl _ _ 30 30 rfl (.slice (some ⟨w.heap.size, (i + 1) * 2, none⟩) (X.length - i) (G - (i + 1))) (.slice (some ⟨g, i * 2, none⟩) (X.length - i) (cap - i)) (by simp [Act.eval, Act.put]) (by simp [Act.eval, Act.put]) (hcpB _ hF1 _ (G - (i + 1)) (cap - i)) ?_)
  go_wp2
  go_ret
  refine ⟨G, Z, hGn, hGm, hZl, rfl, hend _ hF1, ?_⟩
  have b1 : Below w.heap.size w (w.alloc (.cells (dvs (X.take i) ++ Z).toArray 41)).drew := below_drewN ((Below.refl w.heap.size w).alloc (Nat.le_refl _) _) 1
  have b2 : Below w.heap.size w ((w.alloc (.cells (dvs (X.take i) ++ Z).toArray 41)).drew.setCells w.heap.size (i * 2) (dv d)).drew := below_drewN (Below.only b1 (grown_setCells _ _ _ _) (Nat.le_refl _) b1.size) 1
  exact Below.only b2 (grown_setCells _ _ _ _) (Nat.le_refl _) b2.size

set_option maxHeartbeats 1000000 in
set_option maxRecDepth 100000 in
/-- At the end. -/
theorem insert_end (v : Value) (X : List Dt) (vb vc : Nat) (d : Dt) (w : World) (ho : OwnD w 0 v X) (hs : Sd w (.slice (some ⟨vb, 0, none⟩) 1 vc) [d]) (hl : X.length ≤ 100000) :
    Calls Tryz.prog 85 #[v, .int .i64 (X.length : Int), .slice (some ⟨vb, 0, none⟩) 1 vc] w fun e w' =>
      ∃ v', e = .returned v' ∧ OwnD w' 0 v' (X ++ [d]) ∧ w.grownBy w' v.ownBlock ∧ Newer w.heap.size v v' := by
  obtain ⟨i0, hi, hz0, hz1, hz2⟩ := info_parts info_dot
  obtain ⟨A, c, rfl, hc, _⟩ := ho.sd
  have HO := Lib.hid ho
  have hlen : X.length + [d].length ≤ 1000000 := by simp; omega
  clear hc
  go_enter Tryz.func85, Tryz.ntmps85
  go_wp2_with (refine wpList_append_dots _ rfl (.tmp 23) (.tmp 24) 30 rfl 0 i0 Tryz.underlying30 hi hz0 hz1 hz2 (.slice A X.length c) X rfl ho _ [d] rfl hs hlen (Nat.zero_le _) ?_; intro v' w2 ho2 hgr _ hnw)
  · go_ret
    rename_i h
    rw [h] at hgr hnw
    exact ⟨_, rfl, ho2, hgr, hnw⟩
  · go_ret
    exact ⟨_, rfl, ho2, hgr, hnw⟩

theorem sd_one {w : World} {vb vc : Nat} {d : Dt} (hV : Blk w vb 41 #[.int .i64 d.1, .int .u64 (d.2 : Int)]) (hvc : 1 ≤ vc) : Sd w (.slice (some ⟨vb, 0, none⟩) 1 vc) [d] := by
  refine ⟨_, vc, rfl, hvc, fun _ => ⟨vb, 0, rfl, fun j hj => ?_⟩⟩
  obtain rfl : j = 0 := by simpa using hj
  exact ⟨by rw [hV.cell]; rfl, by rw [hV.cell]; rfl⟩

/-- A dot inserted at whatever place. -/
theorem insert_any (v : Value) (X : List Dt) (i vb vc : Nat) (d : Dt) (w : World) (hi : i ≤ X.length) (ho : OwnD w 0 v X) (hV : Blk w vb 41 #[.int .i64 d.1, .int .u64 (d.2 : Int)]) (hvc : 1 ≤ vc) (hne : v.ownBlock ≠ some vb) (hl : X.length ≤ 100000) :
    Calls Tryz.prog 85 #[v, .int .i64 (i : Int), .slice (some ⟨vb, 0, none⟩) 1 vc] w fun e w' =>
      ∃ v', e = .returned v' ∧ OwnD w' 0 v' (X.take i ++ d :: X.drop i) ∧ Keep (fun k => v.ownBlock = some k) w w' ∧ Newer w.heap.size v v' := by
  rcases Nat.lt_or_ge i X.length with hlt | hge
  · have hlen : (X.take i ++ d :: X.drop i).length = X.length + 1 := by simp; omega
    rcases ho.2 with ⟨rfl, h0⟩ | ⟨g, cap, cur, rfl, _, hB, hnc, hcm, hsz, htk⟩
    · omega
    · have hvb : vb ≠ g := fun e => hne (by rw [e]; rfl)
      have hcl : cur.toList.length = cap * 2 := by rw [Array.length_toList]; exact hsz
      by_cases hroom : X.length + 1 ≤ cap
      · refine (insert_shift g cap cur X i vb vc d w hlt hroom (by unfold maxLen at hcm; omega) hB hsz htk hvb hV hl).mono ?_
        rintro e w' ⟨rfl, rfl⟩
        have hdl := dvs_length (X.drop i)
        rw [List.length_drop] at hdl
        have h1 : Blk (w.drew.setCells g ((i + 1) * 2) (dvs (X.drop i))) g 41 (lay cur.toList ((i + 1) * 2) (dvs (X.drop i))).toArray := Blk.lay_ (w := w.drew) hB _ _ (by omega)
        have hly := lay_length (l := cur.toList) (o := (i + 1) * 2) (vs := dvs (X.drop i)) (by omega)
        have h2 := h1.lay_ (i * 2) (dv d) (by rw [List.size_toArray]; simp [dv]; omega)
        have hly2 := lay_length (l := lay cur.toList ((i + 1) * 2) (dvs (X.drop i))) (o := i * 2) (vs := dv d) (by simp [dv]; omega)
        rw [show (lay cur.toList ((i + 1) * 2) (dvs (X.drop i))).toArray.toList = lay cur.toList ((i + 1) * 2) (dvs (X.drop i)) from rfl] at h2
        have hcur : cur.toList = dvs X ++ cur.toList.drop (X.length * 2) := by rw [← htk, List.take_append_drop]
        have hsh := lay_shift X (cur.toList.drop (X.length * 2)) i d (by omega) (by rw [List.length_drop]; omega)
        rw [← hcur] at hsh
        refine ⟨_, rfl, ⟨by rw [dvs_length], .inr ⟨g, cap, _, by rw [hlen], Nat.zero_le _, h2, by omega, hcm, by rw [List.size_toArray, hly2, hly, hcl], ?_⟩⟩, ?_, fun k hk => .inl hk⟩
        · show (lay _ _ _).take _ = _
          rw [hsh, List.take_append_of_le_length (by rw [dvs_length]; exact Nat.le_refl _), List.take_of_length_le (by rw [dvs_length]; exact Nat.le_refl _)]
        · have k1 : Keep (fun k => (Value.slice (some ⟨g, 0, none⟩) X.length cap).ownBlock = some k) w w.drew := ⟨rfl, rfl, rfl, Nat.le_refl _, fun _ _ _ => rfl⟩
          have k2 := k1.trans (Keep.of_grown (S := fun k => (Value.slice (some ⟨g, 0, none⟩) X.length cap).ownBlock = some k) (grown_setCells g (dvs (X.drop i)) ((i + 1) * 2) w.drew) (fun k hk => hk)) (fun _ h => h) (fun _ _ h => h)
          exact k2.trans (Keep.of_grown (S := fun k => (Value.slice (some ⟨g, 0, none⟩) X.length cap).ownBlock = some k) (grown_setCells g (dv d) (i * 2) _) (fun k hk => hk)) (fun _ h => h) (fun _ _ h => h)
      · refine (insert_grow g cap cur X i vb vc d w hlt hnc (by omega) hB hsz htk hV hl).mono ?_
        rintro e w' ⟨G, Z, hG1, hGm, hZ, rfl, hBk, hb⟩
        have htl := dvs_length (X.take i)
        rw [List.length_take, Nat.min_eq_left (by omega)] at htl
        have hn := lay_new X Z i d (by omega) (by omega)
        rw [hn] at hBk
        refine ⟨_, rfl, ⟨by rw [dvs_length], .inr ⟨w.heap.size, G, _, by rw [hlen], Nat.zero_le _, hBk, by omega, hGm, ?_, ?_⟩⟩, .of_below hb, fun k hk => ?_⟩
        · rw [List.size_toArray, List.length_append, dvs_length, hlen, List.length_drop]; omega
        · show (_ ++ _ : List Value).take _ = _
          rw [List.take_append_of_le_length (by rw [dvs_length]; exact Nat.le_refl _), List.take_of_length_le (by rw [dvs_length]; exact Nat.le_refl _)]
        · have hk2 : w.heap.size = k := by injection hk
          exact .inr (by omega)
  · obtain rfl : i = X.length := by omega
    refine (insert_end v X vb vc d w ho (sd_one hV hvc) hl).mono ?_
    rintro e w' ⟨v', rfl, h1, h2, h3⟩
    rw [List.take_length, List.drop_length]
    exact ⟨v', rfl, h1, .of_grown h2 fun k hk => hk, h3⟩
end Go.Proofs.YtldfaaahmpncbaaGreat

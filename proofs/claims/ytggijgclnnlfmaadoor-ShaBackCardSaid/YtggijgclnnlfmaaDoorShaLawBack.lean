/-
  The walk of minsterlaw03.ShaBack.
-/
import Derived.Test.YtggijgclnnlfmaaDoorShaEq
namespace Go.Proofs.YtggijgclnnlfmaaDoor
open Go.RowKit
set_option linter.unusedVariables false
set_option linter.unusedSimpArgs false

theorem wpList_load_row_g {P : Program} {w : World} {ops : Array Oper} {rest : List Oper} {o : Oper} {a : Act} {Q : Exit → Act → World → Prop} (hw : Region.wanted o (yielded ops a.tmps) = true) (ty : TypeId) (x : Operand) (ho : o.op = .load ty x)
    (g : Nat) (hx : a.eval x = .pointer (some ⟨g, 0, none⟩)) (t : TypeId) (cs : Array Value) (fr : Nat × Nat) (d : TypeDesc) (hg : w.heap[g]? = some (.cells cs t fr))
    (hu : P.underlying ty = some d) (hd : (match d with | .struct _ | .array _ _ => true | _ => false) = true) (hi : (P.info? ty).map (·.size) = some cs.size)
    (h : wpList P ops Q rest (a.put o.dst (.agg cs)) w) : wpList P ops Q (o :: rest) a w :=
  wpList_step fun K hK => by rw [if_pos hw]; exact wp_load_row ty x ho g hx t cs fr d hg hu hd hi (hK _ _ h)

theorem Sls.ofs (w : World) (e : TypeId) (vs : List Value) (ls : List (List UInt8)) (h : SlAll w vs ls) (n : Nat := vs.length) (hn : n = vs.length := by rfl) : Sls (w.alloc (.cells vs.toArray e)) (.slice (some ⟨w.heap.size, 0, none⟩) n n) ls := by
  subst hn
  refine ⟨_, _, by rw [h.1], Nat.le_refl _, fun _ => ⟨_, 0, rfl, fun j hj => ?_⟩⟩
  obtain ⟨u, hu, hs⟩ := h.2 j hj
  exact ⟨u, by rw [Nat.zero_add, (Blk.new w e vs.toArray).cell]; simpa using hu, hs.alloc _⟩
theorem keyN_fill (s : List UInt8) (h : s.length ≤ 64) : keyN (s ++ List.replicate (64 - s.length) 0) = keyN s := by
  have h2 : (s ++ List.replicate (64 - s.length) (0 : UInt8)).length = 64 := by simp; omega
  rw [keyN_short, keyN_short, shortN_self _ (by omega), shortN_self s h, h2]
  simp
theorem codeN_fill (s b : List UInt8) (h : s.length ≤ 64) : codeN (s ++ List.replicate (64 - s.length) 0) b = codeN s b := by unfold codeN; rw [keyN_fill s h]

set_option maxRecDepth 100000 in
set_option maxHeartbeats 16000000 in
theorem law_back (h s b : List UInt8) (v1 v2 : Value) (at' : Int) (w : World) (hh : h.length = 32) (hs : Sl w v1 s) (hb : Sl w v2 b) (hg : Gl w) :
    Calls Tryd.prog 6 #[.agg (rowB h), v1, v2, .int .i64 at'] w fun e w' => e = .returned (.bool true) ∧ Below w.heap.size w w' := by
  obtain ⟨A1, n1, c1, rfl⟩ := hs.shape
  obtain ⟨A2, n2, c2, rfl⟩ := hb.shape
  have hi := rowB_info hh
  have h1 := rowB_one h
  have hself := hash_self h hh
  have hsz := rowB_size h
  rw [hh] at hsz
  have HT := Lib.hid (fun w => text_any h w hh)
  have HO := Lib.hid (show ∀ T n, ((∃ m, ofB (⟨(hexB h).toArray⟩ : ByteArray).data.toList = some m ∧ m.length = 32 ∧ n = (0 : Int) ∧ T = rowB m) ∨ (ofB (⟨(hexB h).toArray⟩ : ByteArray).data.toList = none ∧ n = 4 ∧ T = rowB (List.replicate 32 0))) → T = rowB h ∧ n = 0 by
    rw [show (⟨(hexB h).toArray⟩ : ByteArray).data.toList = hexB h by simp, ofB_hex h hh]
    rintro T n (⟨m, e, _, rfl, rfl⟩ | ⟨e, _⟩)
    · injection e with e
      subst e
      exact ⟨rfl, rfl⟩
    · cases e)
  have hB := Blk.new w 28 (rowB h)
  have hbw : Below w.heap.size w (w.alloc (.cells (rowB h) 28)) := (Below.refl _ _).alloc (Nat.le_refl _) _
  generalize rowB h = T at hi h1 hself hB hbw HT HO hsz ⊢
  go_enter Tryd.func6, Tryd.ntmps6
  go_upto_region 1 with (fail)
  have hs0 := hs.below hbw
  have hb0 := hb.below hbw
  have hg0 := hg.below hbw
  generalize w.alloc (.cells T 28) = W0 at hB hbw hs0 hb0 hg0 ⊢
  clear hs hb hg
  go_wp2_with fail
  refine (known_any _ hg0).mono ?_
  rintro e w1 ⟨rfl, hx⟩
  replace hs0 := hs0.below hx
  replace hb0 := hb0.below hx
  replace hg0 := hg0.below hx
  replace hB := hB.below hx hB.lt
  replace hbw := hbw.trans (hx.mono hbw.size)
  clear hx
  go_wp2_with (refine wpList_load_row rfl 28 _ rfl w.heap.size rfl 28 T (0, 0) _ hB Tryd.underlying28 rfl hi ?_)
  refine (HT.out _).mono ?_
  rintro e w2 ⟨rfl, hx⟩
  replace hs0 := hs0.below hx
  replace hb0 := hb0.below hx
  replace hg0 := hg0.below hx
  replace hB := hB.below hx hB.lt
  replace hbw := hbw.trans (hx.mono hbw.size)
  clear hx
  go_wp2_with fail
  refine (of_any _ _).mono ?_
  rintro e w3 ⟨TT, n, rfl, hx, hr⟩
  obtain ⟨rfl, rfl⟩ := HO.out _ _ hr
  replace hs0 := hs0.below hx
  replace hb0 := hb0.below hx
  replace hg0 := hg0.below hx
  replace hB := hB.below hx hB.lt
  replace hbw := hbw.trans (hx.mono hbw.size)
  clear hx hr HT HO
  obtain ⟨hth, hN, hbN⟩ := fresh_row w3 28 TT 32 hsz
  go_upto_region 4 with (refine wpList_store_mid rfl 28 _ _ rfl w3.heap.size 0 TT rfl rfl hth hi h1 ?_)
  change Code.wp _ _ _ _ ((w3.alloc (.cells (rowB (List.replicate 32 0)) 28)).setCells w3.heap.size 0 TT.toList)
  replace hs0 := hs0.below hbN
  replace hb0 := hb0.below hbN
  replace hg0 := hg0.below hbN
  replace hB := hB.below hbN hB.lt
  replace hbw := hbw.trans (hbN.mono hbw.size)
  generalize (w3.alloc (.cells (rowB (List.replicate 32 0)) 28)).setCells w3.heap.size 0 TT.toList = W4 at hs0 hb0 hg0 hB hbw hN ⊢
  clear hth hbN
  generalize w3.heap.size = g4 at hN ⊢
  go_wp2_with fail
  refine (num_any _ _).mono ?_
  rintro e w5 ⟨rfl, rfl⟩
  go_upto_if 27 with (first | (refine wpList_load_row_g rfl 28 _ rfl w.heap.size rfl 28 TT (0, 0) _ hB Tryd.underlying28 rfl hi ?_) | (refine wpList_load_row_g rfl 28 _ rfl g4 rfl 28 TT (0, 0) _ hN Tryd.underlying28 rfl hi ?_))
  -- sizes
  clear hB hN hi h1 hself hsz
  have hn1 := hs0.len
  have hn2 := hb0.len
  have Hh := Lib.hid hh
  clear hh
  by_cases q1 : 64 < n1
  · clear hn1 hn2
    go_wp2
    go_ret
    exact ⟨rfl, hbw⟩
  · skip
    by_cases q2 : 3000 < n2
    · clear hn1 hn2
      go_wp2
      go_ret
      exact ⟨rfl, hbw⟩
    · skip
      by_cases q3 : at' < 0
      · clear hn1 hn2
        go_wp2
        go_ret
        exact ⟨rfl, hbw⟩
      · skip
        by_cases q4 : (n2 : Int) < at'
        · have q3' : 0 ≤ at' := (by omega); clear hn1 hn2
          go_wp2
          go_ret
          exact ⟨rfl, hbw⟩
        · skip
          obtain ⟨k, rfl⟩ : ∃ k : Nat, at' = k := ⟨at'.toNat, by omega⟩
          have hk : k ≤ n2 := by omega
          have hmk := fun w => make_at 64 64 w rfl (by decide)
          have hF := Blk.new W4 5 (zerosR 64)
          have hx : Below W4.heap.size W4 (W4.alloc (.cells (zerosR 64) 5)) := (Below.refl _ _).alloc (Nat.le_refl _) _
          have hle : s.length ≤ 64 := by omega
          have hlb : b.length ≤ 3000 := by omega
          have HN1 := Lib.hid hn1
          have HN2 := Lib.hid hn2
          have hc2 : n2 ≤ c2 := by obtain ⟨A9, c9, e9, hc9, _⟩ := hb0; injection e9 with e1 e2 e3; omega
          clear hn1 hn2 q3 q4
          go_upto_region 9 with (fail)
          have hs5 := hs0.below hx
          generalize W4.alloc (.cells (zerosR 64) 5) = W5 at hs5 hx hF ⊢
          clear hmk
          go_upto_region 10 with (refine wpList_copy_splice rfl (.tmp 47) (.tmp 48) 25 25 rfl 5 Tryd.underlying25 size_u8 _ _ 64 64 _ _ rfl rfl W4.heap.size 0 ((List.replicate 64 (0 : UInt8)).map bv) 5 hF (s.map bv) (by rw [List.length_map, ← HN1.out]; exact (Nat.min_eq_left (by omega)).symm) (fun hp => ⟨rfl, hs5.cells (by simpa using hp)⟩) (by simp <;> omega) (bv_one s) W4.heap.size W4 hx (Nat.le_refl _) ?_; intro w6 hg6 hb6)
          replace hs0 := hs0.below hb6
          replace hb0 := hb0.below hb6
          replace hg0 := hg0.below hb6
          replace hbw := hbw.trans (hb6.mono hbw.size)
          have hf0 : Sl w6 (.slice (some ⟨W4.heap.size, 0, none⟩) 64 64) (s ++ List.replicate (64 - s.length) 0) := by
            have hE : Blk w6 W4.heap.size 5 (rowB (s ++ List.replicate (64 - s.length) 0)) := by rw [← splice_zeros s 64 hle]; exact hg6.out
            exact hE.bytes 64 64 (by simp; omega) (Nat.le_refl _)
          clear hg6 hb6 hs5 hx hF
          generalize W4.heap.size = gf at hf0 ⊢
          have lf : (s ++ List.replicate (64 - s.length) (0 : UInt8)).length = 64 := by simp; omega
          have HCF := Lib.hid (codeN_fill s b hle)
          generalize s ++ List.replicate (64 - s.length) 0 = f at hf0 lf HCF
          have hsh : ∀ w, (Op.equalIn 10000 28 (.agg (rowB (shaN b))) (.agg (rowB (shaN b)))).run Tryd.prog w = .ok true w := hash_self _ (shaN_length _)
          have hch : ∀ w, (Op.equalIn 10000 28 (.agg (rowB (codeN s b))) (.agg (rowB (codeN s b)))).run Tryd.prog w = .ok true w := hash_self _ (codeN_length _ _)
          have HR := Lib.hid (show rowB (shaN b) = rowB (shaN b) ∧ rowB (codeN s b) = rowB (codeN s b) from ⟨rfl, rfl⟩)
          obtain ⟨R, hR⟩ : ∃ R, R = rowB (shaN b) := ⟨_, rfl⟩
          obtain ⟨C, hC⟩ : ∃ C, C = rowB (codeN s b) := ⟨_, rfl⟩
          rw [← hR] at hsh
          rw [← hC] at hch
          have HRR := Lib.hid hR
          have HCC := Lib.hid hC
          clear hR hC HR
          refine wp_region_held_drew (S := fun _ => True) (by kernel_rfl) trivial (fun _ => ?_)
          replace hs0 := hs0.drew
          replace hb0 := hb0.drew
          replace hf0 := hf0.drew
          replace hg0 := hg0.drew
          replace hbw := hbw.drew
          generalize w6.drew = x0 at hs0 hb0 hf0 hg0 hbw ⊢
          clear hle hlb
          have hkc : k ≤ c2 := by omega
          have hbT := hb0.begin k hk c2 hkc
          have hbD : Sl x0 (.slice (if c2 = k then A2 else Option.map (fun x => x.add k) A2) (n2 - k) (c2 - k)) (b.drop k) := hb0.behind k hk (fun b' o' e hne => by rw [if_neg hne, e, Option.map_some, add_plain]) _ _ rfl rfl
          refine' wpAnyH_take (i := 0) (oi := ⟨some 50, _, _, _, _, _⟩) (v := _) rfl (by kernel_rfl) (by kernel_rfl) (by kernel_rfl) (fun _ _ _ h => h) (Or.inl ⟨by rfl, ?y0⟩) trivial ?r0
          case y0 => (intro w' hSw; go_simp; try rfl)
          try simp only [Act.put, List.setIfInBounds_toArray, List.set_cons_zero, List.set_cons_succ]
          refine' wpAnyH_take (i := 1) (oi := ⟨some 51, _, _, _, _, _⟩) (v := _) rfl (by kernel_rfl) (by kernel_rfl) (by kernel_rfl) (fun _ _ _ h => h) (Or.inl ⟨by rfl, ?y1⟩) trivial ?r1
          case y1 => (intro w' hSw; go_simp; try rfl)
          try simp only [Act.put, List.setIfInBounds_toArray, List.set_cons_zero, List.set_cons_succ]
          refine' wpAnyH_take (i := 2) (oi := ⟨some 52, _, _, _, _, _⟩) (v := _) rfl (by kernel_rfl) (by kernel_rfl) (by kernel_rfl) (fun _ _ _ h => h) (Or.inl ⟨by rfl, ?y2⟩) trivial ?r2
          case y2 => (intro w' hSw; go_simp; try rfl)
          try simp only [Act.put, List.setIfInBounds_toArray, List.set_cons_zero, List.set_cons_succ]
          refine' wpAnyH_take (i := 3) (oi := ⟨some 53, _, _, _, _, _⟩) (v := _) rfl (by kernel_rfl) (by kernel_rfl) (by kernel_rfl) (fun _ _ _ h => h) (Or.inl ⟨by rfl, ?y3⟩) trivial ?r3
          case y3 => (intro w' hSw; go_simp; try rfl)
          try simp only [Act.put, List.setIfInBounds_toArray, List.set_cons_zero, List.set_cons_succ]
          refine' wpAnyH_take (i := 4) (oi := ⟨some 54, _, _, _, _, _⟩) (v := _) rfl (by kernel_rfl) (by kernel_rfl) (by kernel_rfl) (fun _ _ _ h => h) (Or.inl ⟨by rfl, ?y4⟩) trivial ?r4
          case y4 => (intro w' hSw; go_simp; try rfl)
          try simp only [Act.put, List.setIfInBounds_toArray, List.set_cons_zero, List.set_cons_succ]
          refine' wpAnyH_take (i := 5) (oi := ⟨some 55, _, _, _, _, _⟩) (v := _) rfl (by kernel_rfl) (by kernel_rfl) (by kernel_rfl) (fun _ _ _ h => h) (Or.inl ⟨by rfl, ?y5⟩) trivial ?r5
          case y5 => (intro w' hSw; go_simp; try rfl)
          try simp only [Act.put, List.setIfInBounds_toArray, List.set_cons_zero, List.set_cons_succ]
          refine' wpAnyH_take (i := 8) (oi := ⟨some 58, _, _, _, _, _⟩) (v := _) rfl (by kernel_rfl) (by kernel_rfl) (by kernel_rfl) (fun _ _ _ h => h) (Or.inl ⟨by rfl, ?y8⟩) trivial ?r8
          case y8 => (intro w' hSw; go_simp; try rfl)
          try simp only [Act.put, List.setIfInBounds_toArray, List.set_cons_zero, List.set_cons_succ]
          have hD : b.take k ++ b.drop k = b := List.take_append_drop k b
          have HD := Lib.hid hD
          have HLB := Lib.hid (show b.length ≤ 3000 by have := HN2.out; omega)
          have HLS := Lib.hid (show s.length ≤ 64 by have := HN1.out; omega)
          clear hD q1 q2 HN1 HN2
          generalize eA3 : (if c2 = k then A2 else Option.map (fun x => x.add k) A2) = A3 at hbD ⊢
          have HeA3 := Lib.hid eA3
          clear eA3
          generalize en3 : n2 - k = n3 at hbD ⊢
          have Hen3 := Lib.hid en3
          clear en3
          generalize ec3 : c2 - k = c3 at hbD ⊢
          have Hec3 := Lib.hid ec3
          clear ec3
          generalize b.take k = b1 at hbT HD
          generalize b.drop k = b2 at hbD HD
          refine wpAnyH_ready (by kernel_rfl) (by simp) (rs := [6, 9]) (AllReadyH.cons (i := 6) rfl (fun K hK => ?_) (AllReadyH.cons (i := 9) rfl (fun K hK => ?_) AllReadyH.nil))
          · skip
            go_simp
            have hx : Below x0.heap.size x0 (x0.alloc (.cells #[Value.slice A2 k c2, Value.slice A3 n3 c3] 25)) := (Below.refl _ _).alloc (Nat.le_refl _) _
            have l6 := Sls.ofs x0 25 [Value.slice A2 k c2, Value.slice A3 n3 c3] [b1, b2] (by exact ⟨rfl, fun j hj => by rcases j with _ | _ | j; exact ⟨_, rfl, hbT⟩; exact ⟨_, rfl, hbD⟩; exact absurd hj (by simp)⟩)
            replace hs0 := hs0.below hx
            replace hb0 := hb0.below hx
            replace hf0 := hf0.below hx
            replace hg0 := hg0.below hx
            replace hbT := hbT.below hx
            replace hbD := hbD.below hx
            replace hbw := hbw.trans (hx.mono hbw.size)
            clear hx
            generalize x0.alloc (.cells #[Value.slice A2 k c2, Value.slice A3 n3 c3] 25) = x1 at hs0 hb0 hf0 hg0 hbT hbD hbw  l6 ⊢
            generalize x0.heap.size = gx1 at l6 ⊢
            refine hK.out _ _ trivial (fun _ => ?_)
            clear hK K
            refine wpAnyH_ready (by kernel_rfl) (by simp) (rs := [7, 9]) (AllReadyH.cons (i := 7) rfl (fun K hK => ?_) (AllReadyH.cons (i := 9) rfl (fun K hK => ?_) AllReadyH.nil))
            · skip
              go_simp
              refine (sum_any _ [b1, b2] _ l6 (by have := HLB.out; rw [← HD.out] at this; simp at this ⊢; omega) (by simp) hg0).mono ?_
              rintro e x2 ⟨rfl, hx⟩
              rw [show [b1, b2].flatten = b by rw [← HD.out]; simp, ← HRR.out]
              replace hs0 := hs0.below hx
              replace hb0 := hb0.below hx
              replace hf0 := hf0.below hx
              replace hg0 := hg0.below hx
              replace hbT := hbT.below hx
              replace hbD := hbD.below hx
              replace l6 := l6.below hx
              replace hbw := hbw.trans (hx.mono hbw.size)
              clear hx
              refine hK.out _ _ trivial (fun _ => ?_)
              clear hK K
              refine held_one (i := 9) (by kernel_rfl) rfl (fun K hK => ?_)
              go_simp
              have hx : Below x2.heap.size x2 (x2.alloc (.cells #[Value.slice A2 n2 c2] 25)) := (Below.refl _ _).alloc (Nat.le_refl _) _
              have l9 := Sls.ofs x2 25 [Value.slice A2 n2 c2] [b] (by exact ⟨rfl, fun j hj => by rcases j with _ | j; exact ⟨_, rfl, hb0⟩; exact absurd hj (by simp)⟩)
              replace hs0 := hs0.below hx
              replace hb0 := hb0.below hx
              replace hf0 := hf0.below hx
              replace hg0 := hg0.below hx
              replace hbT := hbT.below hx
              replace hbD := hbD.below hx
              replace l6 := l6.below hx
              replace hbw := hbw.trans (hx.mono hbw.size)
              clear hx
              generalize x2.alloc (.cells #[Value.slice A2 n2 c2] 25) = x3 at hs0 hb0 hf0 hg0 hbT hbD hbw l6 l9 ⊢
              generalize x2.heap.size = gx3 at l9 ⊢
              refine hK.out _ _ trivial (fun _ => ?_)
              clear hK K
              refine held_one (i := 10) (by kernel_rfl) rfl (fun K hK => ?_)
              go_simp
              refine (sum_any _ [b] _ l9 (by have := HLB.out; simp; omega) (by simp) hg0).mono ?_
              rintro e x4 ⟨rfl, hx⟩
              rw [show [b].flatten = b by simp, ← HRR.out]
              replace hs0 := hs0.below hx
              replace hb0 := hb0.below hx
              replace hf0 := hf0.below hx
              replace hg0 := hg0.below hx
              replace hbT := hbT.below hx
              replace hbD := hbD.below hx
              replace l6 := l6.below hx
              replace l9 := l9.below hx
              replace hbw := hbw.trans (hx.mono hbw.size)
              clear hx
              refine hK.out _ _ trivial (fun _ => ?_)
              clear hK K
              refine' wpAnyH_take (i := 11) (oi := ⟨some 61, _, _, _, _, _⟩) (v := _) rfl (by kernel_rfl) (by kernel_rfl) (by kernel_rfl) (fun _ _ _ h => h) (Or.inl ⟨by rfl, ?y11a1⟩) trivial ?r11a1
              case y11a1 => (intro w' hSw; have q := hsh w'; go_simp; try rfl)
              try simp only [Act.put, List.setIfInBounds_toArray, List.set_cons_zero, List.set_cons_succ]
              refine' wpAnyH_take (i := 12) (oi := ⟨some 62, _, _, _, _, _⟩) (v := _) rfl (by kernel_rfl) (by kernel_rfl) (by kernel_rfl) (fun _ _ _ h => h) (Or.inl ⟨by rfl, ?y12a1⟩) trivial ?r12a1
              case y12a1 => (intro w' hSw; go_simp; try rfl)
              try simp only [Act.put, List.setIfInBounds_toArray, List.set_cons_zero, List.set_cons_succ]
              refine' wpAnyH_take (i := 13) (oi := ⟨some 63, _, _, _, _, _⟩) (v := _) rfl (by kernel_rfl) (by kernel_rfl) (by kernel_rfl) (fun _ _ _ h => h) (Or.inl ⟨by rfl, ?y13a1⟩) trivial ?r13a1
              case y13a1 => (intro w' hSw; go_simp; try rfl)
              try simp only [Act.put, List.setIfInBounds_toArray, List.set_cons_zero, List.set_cons_succ]
              refine' wpAnyH_take (i := 14) (oi := ⟨some 64, _, _, _, _, _⟩) (v := _) rfl (by kernel_rfl) (by kernel_rfl) (by kernel_rfl) (fun _ _ _ h => h) (Or.inl ⟨by rfl, ?y14a1⟩) trivial ?r14a1
              case y14a1 => (intro w' hSw; go_simp; try rfl)
              try simp only [Act.put, List.setIfInBounds_toArray, List.set_cons_zero, List.set_cons_succ]
              refine' wpAnyH_take (i := 15) (oi := ⟨some 65, _, _, _, _, _⟩) (v := _) rfl (by kernel_rfl) (by kernel_rfl) (by kernel_rfl) (fun _ _ _ h => h) (Or.inl ⟨by rfl, ?y15a1⟩) trivial ?r15a1
              case y15a1 => (intro w' hSw; go_simp; try rfl)
              try simp only [Act.put, List.setIfInBounds_toArray, List.set_cons_zero, List.set_cons_succ]
              refine' wpAnyH_take (i := 16) (oi := ⟨some 66, _, _, _, _, _⟩) (v := _) rfl (by kernel_rfl) (by kernel_rfl) (by kernel_rfl) (fun _ _ _ h => h) (Or.inl ⟨by rfl, ?y16a1⟩) trivial ?r16a1
              case y16a1 => (intro w' hSw; go_simp; try rfl)
              try simp only [Act.put, List.setIfInBounds_toArray, List.set_cons_zero, List.set_cons_succ]
              refine' wpAnyH_take (i := 17) (oi := ⟨some 67, _, _, _, _, _⟩) (v := _) rfl (by kernel_rfl) (by kernel_rfl) (by kernel_rfl) (fun _ _ _ h => h) (Or.inl ⟨by rfl, ?y17a1⟩) trivial ?r17a1
              case y17a1 => (intro w' hSw; go_simp; try rfl)
              try simp only [Act.put, List.setIfInBounds_toArray, List.set_cons_zero, List.set_cons_succ]
              refine' wpAnyH_take (i := 18) (oi := ⟨some 68, _, _, _, _, _⟩) (v := _) rfl (by kernel_rfl) (by kernel_rfl) (by kernel_rfl) (fun _ _ _ h => h) (Or.inl ⟨by rfl, ?y18a1⟩) trivial ?r18a1
              case y18a1 => (intro w' hSw; go_simp; try rfl)
              try simp only [Act.put, List.setIfInBounds_toArray, List.set_cons_zero, List.set_cons_succ]
              refine' wpAnyH_take (i := 19) (oi := ⟨some 69, _, _, _, _, _⟩) (v := _) rfl (by kernel_rfl) (by kernel_rfl) (by kernel_rfl) (fun _ _ _ h => h) (Or.inl ⟨by rfl, ?y19a1⟩) trivial ?r19a1
              case y19a1 => (intro w' hSw; have e1 := HeA3.out; have e2 := Hen3.out; have e3 := Hec3.out; go_simp; try rfl)
              try simp only [Act.put, List.setIfInBounds_toArray, List.set_cons_zero, List.set_cons_succ]
              refine' wpAnyH_take (i := 22) (oi := ⟨some 72, _, _, _, _, _⟩) (v := _) rfl (by kernel_rfl) (by kernel_rfl) (by kernel_rfl) (fun _ _ _ h => h) (Or.inl ⟨by rfl, ?y22a1⟩) trivial ?r22a1
              case y22a1 => (intro w' hSw; go_simp; try rfl)
              try simp only [Act.put, List.setIfInBounds_toArray, List.set_cons_zero, List.set_cons_succ]
              refine' wpAnyH_take (i := 23) (oi := ⟨some 73, _, _, _, _, _⟩) (v := _) rfl (by kernel_rfl) (by kernel_rfl) (by kernel_rfl) (fun _ _ _ h => h) (Or.inl ⟨by rfl, ?y23a1⟩) trivial ?r23a1
              case y23a1 => (intro w' hSw; go_simp; try rfl)
              try simp only [Act.put, List.setIfInBounds_toArray, List.set_cons_zero, List.set_cons_succ]
              clear l6 l9
              refine wpAnyH_ready (by kernel_rfl) (by simp) (rs := [20, 24]) (AllReadyH.cons (i := 20) rfl (fun K hK => ?_) (AllReadyH.cons (i := 24) rfl (fun K hK => ?_) AllReadyH.nil))
              · skip
                go_simp
                have hx : Below x4.heap.size x4 (x4.alloc (.cells #[Value.slice A2 k c2, Value.slice none 0 0, Value.slice A3 n3 c3] 25)) := (Below.refl _ _).alloc (Nat.le_refl _) _
                have l20 := Sls.ofs x4 25 [Value.slice A2 k c2, Value.slice none 0 0, Value.slice A3 n3 c3] [b1, [], b2] (by exact ⟨rfl, fun j hj => by rcases j with _ | _ | _ | j; exact ⟨_, rfl, hbT⟩; exact ⟨_, rfl, Sl.nil _ _⟩; exact ⟨_, rfl, hbD⟩; exact absurd hj (by simp)⟩)
                replace hs0 := hs0.below hx
                replace hb0 := hb0.below hx
                replace hf0 := hf0.below hx
                replace hg0 := hg0.below hx
                replace hbT := hbT.below hx
                replace hbD := hbD.below hx
                replace hbw := hbw.trans (hx.mono hbw.size)
                clear hx
                generalize x4.alloc (.cells #[Value.slice A2 k c2, Value.slice none 0 0, Value.slice A3 n3 c3] 25) = x5 at hs0 hb0 hf0 hg0 hbT hbD hbw  l20 ⊢
                generalize x4.heap.size = gx5 at l20 ⊢
                refine hK.out _ _ trivial (fun _ => ?_)
                clear hK K
                refine wpAnyH_ready (by kernel_rfl) (by simp) (rs := [21, 24]) (AllReadyH.cons (i := 21) rfl (fun K hK => ?_) (AllReadyH.cons (i := 24) rfl (fun K hK => ?_) AllReadyH.nil))
                · skip
                  go_simp
                  refine (code_any _ _ s [b1, [], b2] _ hs0 l20 (by have := HLS.out; omega) (by have := HLB.out; rw [← HD.out] at this; simp at this ⊢; omega) (by simp) hg0).mono ?_
                  rintro e x6 ⟨rfl, hx⟩
                  rw [show [b1, [], b2].flatten = b by rw [← HD.out]; simp, ← HCC.out]
                  replace hs0 := hs0.below hx
                  replace hb0 := hb0.below hx
                  replace hf0 := hf0.below hx
                  replace hg0 := hg0.below hx
                  replace hbT := hbT.below hx
                  replace hbD := hbD.below hx
                  replace l20 := l20.below hx
                  replace hbw := hbw.trans (hx.mono hbw.size)
                  clear hx
                  refine hK.out _ _ trivial (fun _ => ?_)
                  clear hK K
                  refine held_one (i := 24) (by kernel_rfl) rfl (fun K hK => ?_)
                  go_simp
                  have hx : Below x6.heap.size x6 (x6.alloc (.cells #[Value.slice A2 n2 c2] 25)) := (Below.refl _ _).alloc (Nat.le_refl _) _
                  have l24 := Sls.ofs x6 25 [Value.slice A2 n2 c2] [b] (by exact ⟨rfl, fun j hj => by rcases j with _ | j; exact ⟨_, rfl, hb0⟩; exact absurd hj (by simp)⟩)
                  replace hs0 := hs0.below hx
                  replace hb0 := hb0.below hx
                  replace hf0 := hf0.below hx
                  replace hg0 := hg0.below hx
                  replace hbT := hbT.below hx
                  replace hbD := hbD.below hx
                  replace l20 := l20.below hx
                  replace hbw := hbw.trans (hx.mono hbw.size)
                  clear hx
                  generalize x6.alloc (.cells #[Value.slice A2 n2 c2] 25) = x7 at hs0 hb0 hf0 hg0 hbT hbD hbw l20 l24 ⊢
                  generalize x6.heap.size = gx7 at l24 ⊢
                  refine hK.out _ _ trivial (fun _ => ?_)
                  clear hK K
                  refine held_one (i := 25) (by kernel_rfl) rfl (fun K hK => ?_)
                  go_simp
                  refine (code_any _ _ f [b] _ hf0 l24 (by rw [lf]; decide) (by have := HLB.out; simp; omega) (by simp) hg0).mono ?_
                  rintro e x8 ⟨rfl, hx⟩
                  rw [show [b].flatten = b by simp, HCF.out, ← HCC.out]
                  replace hs0 := hs0.below hx
                  replace hb0 := hb0.below hx
                  replace hf0 := hf0.below hx
                  replace hg0 := hg0.below hx
                  replace hbT := hbT.below hx
                  replace hbD := hbD.below hx
                  replace l20 := l20.below hx
                  replace l24 := l24.below hx
                  replace hbw := hbw.trans (hx.mono hbw.size)
                  clear hx
                  refine hK.out _ _ trivial (fun _ => ?_)
                  clear hK K
                  refine' wpAnyH_take (i := 26) (oi := ⟨some 76, _, _, _, _, _⟩) (v := _) rfl (by kernel_rfl) (by kernel_rfl) (by kernel_rfl) (fun _ _ _ h => h) (Or.inl ⟨by rfl, ?y26b2⟩) trivial ?r26b2
                  case y26b2 => (intro w' hSw; have q := hch w'; go_simp; try rfl)
                  try simp only [Act.put, List.setIfInBounds_toArray, List.set_cons_zero, List.set_cons_succ]
                  refine' wpAnyH_take (i := 27) (oi := ⟨some 77, _, _, _, _, _⟩) (v := _) rfl (by kernel_rfl) (by kernel_rfl) (by kernel_rfl) (fun _ _ _ h => h) (Or.inl ⟨by rfl, ?y27b2⟩) trivial ?r27b2
                  case y27b2 => (intro w' hSw; go_simp; try rfl)
                  try simp only [Act.put, List.setIfInBounds_toArray, List.set_cons_zero, List.set_cons_succ]
                  refine' wpAnyH_take (i := 28) (oi := ⟨some 8, _, _, _, _, _⟩) (v := _) rfl (by kernel_rfl) (by kernel_rfl) (by kernel_rfl) (fun _ _ _ h => h) (Or.inl ⟨by rfl, ?y28b2⟩) trivial ?r28b2
                  case y28b2 => (intro w' hSw; go_simp; try rfl)
                  try simp only [Act.put, List.setIfInBounds_toArray, List.set_cons_zero, List.set_cons_succ]
                  refine wpAnyH_done (by kernel_rfl) ?_ _
                  go_wp2_with fail
                  go_ret
                  exact ⟨rfl, hbw⟩
                · skip
                  go_simp
                  have hx : Below x5.heap.size x5 (x5.alloc (.cells #[Value.slice A2 n2 c2] 25)) := (Below.refl _ _).alloc (Nat.le_refl _) _
                  have l24 := Sls.ofs x5 25 [Value.slice A2 n2 c2] [b] (by exact ⟨rfl, fun j hj => by rcases j with _ | j; exact ⟨_, rfl, hb0⟩; exact absurd hj (by simp)⟩)
                  replace hs0 := hs0.below hx
                  replace hb0 := hb0.below hx
                  replace hf0 := hf0.below hx
                  replace hg0 := hg0.below hx
                  replace hbT := hbT.below hx
                  replace hbD := hbD.below hx
                  replace l20 := l20.below hx
                  replace hbw := hbw.trans (hx.mono hbw.size)
                  clear hx
                  generalize x5.alloc (.cells #[Value.slice A2 n2 c2] 25) = x9 at hs0 hb0 hf0 hg0 hbT hbD hbw l20 l24 ⊢
                  generalize x5.heap.size = gx9 at l24 ⊢
                  refine hK.out _ _ trivial (fun _ => ?_)
                  clear hK K
                  refine held_one (i := 21) (by kernel_rfl) rfl (fun K hK => ?_)
                  go_simp
                  refine (code_any _ _ s [b1, [], b2] _ hs0 l20 (by have := HLS.out; omega) (by have := HLB.out; rw [← HD.out] at this; simp at this ⊢; omega) (by simp) hg0).mono ?_
                  rintro e x10 ⟨rfl, hx⟩
                  rw [show [b1, [], b2].flatten = b by rw [← HD.out]; simp, ← HCC.out]
                  replace hs0 := hs0.below hx
                  replace hb0 := hb0.below hx
                  replace hf0 := hf0.below hx
                  replace hg0 := hg0.below hx
                  replace hbT := hbT.below hx
                  replace hbD := hbD.below hx
                  replace l20 := l20.below hx
                  replace l24 := l24.below hx
                  replace hbw := hbw.trans (hx.mono hbw.size)
                  clear hx
                  refine hK.out _ _ trivial (fun _ => ?_)
                  clear hK K
                  refine held_one (i := 25) (by kernel_rfl) rfl (fun K hK => ?_)
                  go_simp
                  refine (code_any _ _ f [b] _ hf0 l24 (by rw [lf]; decide) (by have := HLB.out; simp; omega) (by simp) hg0).mono ?_
                  rintro e x11 ⟨rfl, hx⟩
                  rw [show [b].flatten = b by simp, HCF.out, ← HCC.out]
                  replace hs0 := hs0.below hx
                  replace hb0 := hb0.below hx
                  replace hf0 := hf0.below hx
                  replace hg0 := hg0.below hx
                  replace hbT := hbT.below hx
                  replace hbD := hbD.below hx
                  replace l20 := l20.below hx
                  replace l24 := l24.below hx
                  replace hbw := hbw.trans (hx.mono hbw.size)
                  clear hx
                  refine hK.out _ _ trivial (fun _ => ?_)
                  clear hK K
                  refine' wpAnyH_take (i := 26) (oi := ⟨some 76, _, _, _, _, _⟩) (v := _) rfl (by kernel_rfl) (by kernel_rfl) (by kernel_rfl) (fun _ _ _ h => h) (Or.inl ⟨by rfl, ?y26b3⟩) trivial ?r26b3
                  case y26b3 => (intro w' hSw; have q := hch w'; go_simp; try rfl)
                  try simp only [Act.put, List.setIfInBounds_toArray, List.set_cons_zero, List.set_cons_succ]
                  refine' wpAnyH_take (i := 27) (oi := ⟨some 77, _, _, _, _, _⟩) (v := _) rfl (by kernel_rfl) (by kernel_rfl) (by kernel_rfl) (fun _ _ _ h => h) (Or.inl ⟨by rfl, ?y27b3⟩) trivial ?r27b3
                  case y27b3 => (intro w' hSw; go_simp; try rfl)
                  try simp only [Act.put, List.setIfInBounds_toArray, List.set_cons_zero, List.set_cons_succ]
                  refine' wpAnyH_take (i := 28) (oi := ⟨some 8, _, _, _, _, _⟩) (v := _) rfl (by kernel_rfl) (by kernel_rfl) (by kernel_rfl) (fun _ _ _ h => h) (Or.inl ⟨by rfl, ?y28b3⟩) trivial ?r28b3
                  case y28b3 => (intro w' hSw; go_simp; try rfl)
                  try simp only [Act.put, List.setIfInBounds_toArray, List.set_cons_zero, List.set_cons_succ]
                  refine wpAnyH_done (by kernel_rfl) ?_ _
                  go_wp2_with fail
                  go_ret
                  exact ⟨rfl, hbw⟩
              · skip
                go_simp
                have hx : Below x4.heap.size x4 (x4.alloc (.cells #[Value.slice A2 n2 c2] 25)) := (Below.refl _ _).alloc (Nat.le_refl _) _
                have l24 := Sls.ofs x4 25 [Value.slice A2 n2 c2] [b] (by exact ⟨rfl, fun j hj => by rcases j with _ | j; exact ⟨_, rfl, hb0⟩; exact absurd hj (by simp)⟩)
                replace hs0 := hs0.below hx
                replace hb0 := hb0.below hx
                replace hf0 := hf0.below hx
                replace hg0 := hg0.below hx
                replace hbT := hbT.below hx
                replace hbD := hbD.below hx
                replace hbw := hbw.trans (hx.mono hbw.size)
                clear hx
                generalize x4.alloc (.cells #[Value.slice A2 n2 c2] 25) = x12 at hs0 hb0 hf0 hg0 hbT hbD hbw  l24 ⊢
                generalize x4.heap.size = gx12 at l24 ⊢
                refine hK.out _ _ trivial (fun _ => ?_)
                clear hK K
                refine held_one (i := 20) (by kernel_rfl) rfl (fun K hK => ?_)
                go_simp
                have hx : Below x12.heap.size x12 (x12.alloc (.cells #[Value.slice A2 k c2, Value.slice none 0 0, Value.slice A3 n3 c3] 25)) := (Below.refl _ _).alloc (Nat.le_refl _) _
                have l20 := Sls.ofs x12 25 [Value.slice A2 k c2, Value.slice none 0 0, Value.slice A3 n3 c3] [b1, [], b2] (by exact ⟨rfl, fun j hj => by rcases j with _ | _ | _ | j; exact ⟨_, rfl, hbT⟩; exact ⟨_, rfl, Sl.nil _ _⟩; exact ⟨_, rfl, hbD⟩; exact absurd hj (by simp)⟩)
                replace hs0 := hs0.below hx
                replace hb0 := hb0.below hx
                replace hf0 := hf0.below hx
                replace hg0 := hg0.below hx
                replace hbT := hbT.below hx
                replace hbD := hbD.below hx
                replace l24 := l24.below hx
                replace hbw := hbw.trans (hx.mono hbw.size)
                clear hx
                generalize x12.alloc (.cells #[Value.slice A2 k c2, Value.slice none 0 0, Value.slice A3 n3 c3] 25) = x13 at hs0 hb0 hf0 hg0 hbT hbD hbw l24 l20 ⊢
                generalize x12.heap.size = gx13 at l20 ⊢
                refine hK.out _ _ trivial (fun _ => ?_)
                clear hK K
                refine held_one (i := 21) (by kernel_rfl) rfl (fun K hK => ?_)
                go_simp
                refine (code_any _ _ s [b1, [], b2] _ hs0 l20 (by have := HLS.out; omega) (by have := HLB.out; rw [← HD.out] at this; simp at this ⊢; omega) (by simp) hg0).mono ?_
                rintro e x14 ⟨rfl, hx⟩
                rw [show [b1, [], b2].flatten = b by rw [← HD.out]; simp, ← HCC.out]
                replace hs0 := hs0.below hx
                replace hb0 := hb0.below hx
                replace hf0 := hf0.below hx
                replace hg0 := hg0.below hx
                replace hbT := hbT.below hx
                replace hbD := hbD.below hx
                replace l24 := l24.below hx
                replace l20 := l20.below hx
                replace hbw := hbw.trans (hx.mono hbw.size)
                clear hx
                refine hK.out _ _ trivial (fun _ => ?_)
                clear hK K
                refine held_one (i := 25) (by kernel_rfl) rfl (fun K hK => ?_)
                go_simp
                refine (code_any _ _ f [b] _ hf0 l24 (by rw [lf]; decide) (by have := HLB.out; simp; omega) (by simp) hg0).mono ?_
                rintro e x15 ⟨rfl, hx⟩
                rw [show [b].flatten = b by simp, HCF.out, ← HCC.out]
                replace hs0 := hs0.below hx
                replace hb0 := hb0.below hx
                replace hf0 := hf0.below hx
                replace hg0 := hg0.below hx
                replace hbT := hbT.below hx
                replace hbD := hbD.below hx
                replace l24 := l24.below hx
                replace l20 := l20.below hx
                replace hbw := hbw.trans (hx.mono hbw.size)
                clear hx
                refine hK.out _ _ trivial (fun _ => ?_)
                clear hK K
                refine' wpAnyH_take (i := 26) (oi := ⟨some 76, _, _, _, _, _⟩) (v := _) rfl (by kernel_rfl) (by kernel_rfl) (by kernel_rfl) (fun _ _ _ h => h) (Or.inl ⟨by rfl, ?y26b4⟩) trivial ?r26b4
                case y26b4 => (intro w' hSw; have q := hch w'; go_simp; try rfl)
                try simp only [Act.put, List.setIfInBounds_toArray, List.set_cons_zero, List.set_cons_succ]
                refine' wpAnyH_take (i := 27) (oi := ⟨some 77, _, _, _, _, _⟩) (v := _) rfl (by kernel_rfl) (by kernel_rfl) (by kernel_rfl) (fun _ _ _ h => h) (Or.inl ⟨by rfl, ?y27b4⟩) trivial ?r27b4
                case y27b4 => (intro w' hSw; go_simp; try rfl)
                try simp only [Act.put, List.setIfInBounds_toArray, List.set_cons_zero, List.set_cons_succ]
                refine' wpAnyH_take (i := 28) (oi := ⟨some 8, _, _, _, _, _⟩) (v := _) rfl (by kernel_rfl) (by kernel_rfl) (by kernel_rfl) (fun _ _ _ h => h) (Or.inl ⟨by rfl, ?y28b4⟩) trivial ?r28b4
                case y28b4 => (intro w' hSw; go_simp; try rfl)
                try simp only [Act.put, List.setIfInBounds_toArray, List.set_cons_zero, List.set_cons_succ]
                refine wpAnyH_done (by kernel_rfl) ?_ _
                go_wp2_with fail
                go_ret
                exact ⟨rfl, hbw⟩
            · skip
              go_simp
              have hx : Below x1.heap.size x1 (x1.alloc (.cells #[Value.slice A2 n2 c2] 25)) := (Below.refl _ _).alloc (Nat.le_refl _) _
              have l9 := Sls.ofs x1 25 [Value.slice A2 n2 c2] [b] (by exact ⟨rfl, fun j hj => by rcases j with _ | j; exact ⟨_, rfl, hb0⟩; exact absurd hj (by simp)⟩)
              replace hs0 := hs0.below hx
              replace hb0 := hb0.below hx
              replace hf0 := hf0.below hx
              replace hg0 := hg0.below hx
              replace hbT := hbT.below hx
              replace hbD := hbD.below hx
              replace l6 := l6.below hx
              replace hbw := hbw.trans (hx.mono hbw.size)
              clear hx
              generalize x1.alloc (.cells #[Value.slice A2 n2 c2] 25) = x16 at hs0 hb0 hf0 hg0 hbT hbD hbw l6 l9 ⊢
              generalize x1.heap.size = gx16 at l9 ⊢
              refine hK.out _ _ trivial (fun _ => ?_)
              clear hK K
              refine held_one (i := 7) (by kernel_rfl) rfl (fun K hK => ?_)
              go_simp
              refine (sum_any _ [b1, b2] _ l6 (by have := HLB.out; rw [← HD.out] at this; simp at this ⊢; omega) (by simp) hg0).mono ?_
              rintro e x17 ⟨rfl, hx⟩
              rw [show [b1, b2].flatten = b by rw [← HD.out]; simp, ← HRR.out]
              replace hs0 := hs0.below hx
              replace hb0 := hb0.below hx
              replace hf0 := hf0.below hx
              replace hg0 := hg0.below hx
              replace hbT := hbT.below hx
              replace hbD := hbD.below hx
              replace l6 := l6.below hx
              replace l9 := l9.below hx
              replace hbw := hbw.trans (hx.mono hbw.size)
              clear hx
              refine hK.out _ _ trivial (fun _ => ?_)
              clear hK K
              refine held_one (i := 10) (by kernel_rfl) rfl (fun K hK => ?_)
              go_simp
              refine (sum_any _ [b] _ l9 (by have := HLB.out; simp; omega) (by simp) hg0).mono ?_
              rintro e x18 ⟨rfl, hx⟩
              rw [show [b].flatten = b by simp, ← HRR.out]
              replace hs0 := hs0.below hx
              replace hb0 := hb0.below hx
              replace hf0 := hf0.below hx
              replace hg0 := hg0.below hx
              replace hbT := hbT.below hx
              replace hbD := hbD.below hx
              replace l6 := l6.below hx
              replace l9 := l9.below hx
              replace hbw := hbw.trans (hx.mono hbw.size)
              clear hx
              refine hK.out _ _ trivial (fun _ => ?_)
              clear hK K
              refine' wpAnyH_take (i := 11) (oi := ⟨some 61, _, _, _, _, _⟩) (v := _) rfl (by kernel_rfl) (by kernel_rfl) (by kernel_rfl) (fun _ _ _ h => h) (Or.inl ⟨by rfl, ?y11a5⟩) trivial ?r11a5
              case y11a5 => (intro w' hSw; have q := hsh w'; go_simp; try rfl)
              try simp only [Act.put, List.setIfInBounds_toArray, List.set_cons_zero, List.set_cons_succ]
              refine' wpAnyH_take (i := 12) (oi := ⟨some 62, _, _, _, _, _⟩) (v := _) rfl (by kernel_rfl) (by kernel_rfl) (by kernel_rfl) (fun _ _ _ h => h) (Or.inl ⟨by rfl, ?y12a5⟩) trivial ?r12a5
              case y12a5 => (intro w' hSw; go_simp; try rfl)
              try simp only [Act.put, List.setIfInBounds_toArray, List.set_cons_zero, List.set_cons_succ]
              refine' wpAnyH_take (i := 13) (oi := ⟨some 63, _, _, _, _, _⟩) (v := _) rfl (by kernel_rfl) (by kernel_rfl) (by kernel_rfl) (fun _ _ _ h => h) (Or.inl ⟨by rfl, ?y13a5⟩) trivial ?r13a5
              case y13a5 => (intro w' hSw; go_simp; try rfl)
              try simp only [Act.put, List.setIfInBounds_toArray, List.set_cons_zero, List.set_cons_succ]
              refine' wpAnyH_take (i := 14) (oi := ⟨some 64, _, _, _, _, _⟩) (v := _) rfl (by kernel_rfl) (by kernel_rfl) (by kernel_rfl) (fun _ _ _ h => h) (Or.inl ⟨by rfl, ?y14a5⟩) trivial ?r14a5
              case y14a5 => (intro w' hSw; go_simp; try rfl)
              try simp only [Act.put, List.setIfInBounds_toArray, List.set_cons_zero, List.set_cons_succ]
              refine' wpAnyH_take (i := 15) (oi := ⟨some 65, _, _, _, _, _⟩) (v := _) rfl (by kernel_rfl) (by kernel_rfl) (by kernel_rfl) (fun _ _ _ h => h) (Or.inl ⟨by rfl, ?y15a5⟩) trivial ?r15a5
              case y15a5 => (intro w' hSw; go_simp; try rfl)
              try simp only [Act.put, List.setIfInBounds_toArray, List.set_cons_zero, List.set_cons_succ]
              refine' wpAnyH_take (i := 16) (oi := ⟨some 66, _, _, _, _, _⟩) (v := _) rfl (by kernel_rfl) (by kernel_rfl) (by kernel_rfl) (fun _ _ _ h => h) (Or.inl ⟨by rfl, ?y16a5⟩) trivial ?r16a5
              case y16a5 => (intro w' hSw; go_simp; try rfl)
              try simp only [Act.put, List.setIfInBounds_toArray, List.set_cons_zero, List.set_cons_succ]
              refine' wpAnyH_take (i := 17) (oi := ⟨some 67, _, _, _, _, _⟩) (v := _) rfl (by kernel_rfl) (by kernel_rfl) (by kernel_rfl) (fun _ _ _ h => h) (Or.inl ⟨by rfl, ?y17a5⟩) trivial ?r17a5
              case y17a5 => (intro w' hSw; go_simp; try rfl)
              try simp only [Act.put, List.setIfInBounds_toArray, List.set_cons_zero, List.set_cons_succ]
              refine' wpAnyH_take (i := 18) (oi := ⟨some 68, _, _, _, _, _⟩) (v := _) rfl (by kernel_rfl) (by kernel_rfl) (by kernel_rfl) (fun _ _ _ h => h) (Or.inl ⟨by rfl, ?y18a5⟩) trivial ?r18a5
              case y18a5 => (intro w' hSw; go_simp; try rfl)
              try simp only [Act.put, List.setIfInBounds_toArray, List.set_cons_zero, List.set_cons_succ]
              refine' wpAnyH_take (i := 19) (oi := ⟨some 69, _, _, _, _, _⟩) (v := _) rfl (by kernel_rfl) (by kernel_rfl) (by kernel_rfl) (fun _ _ _ h => h) (Or.inl ⟨by rfl, ?y19a5⟩) trivial ?r19a5
              case y19a5 => (intro w' hSw; have e1 := HeA3.out; have e2 := Hen3.out; have e3 := Hec3.out; go_simp; try rfl)
              try simp only [Act.put, List.setIfInBounds_toArray, List.set_cons_zero, List.set_cons_succ]
              refine' wpAnyH_take (i := 22) (oi := ⟨some 72, _, _, _, _, _⟩) (v := _) rfl (by kernel_rfl) (by kernel_rfl) (by kernel_rfl) (fun _ _ _ h => h) (Or.inl ⟨by rfl, ?y22a5⟩) trivial ?r22a5
              case y22a5 => (intro w' hSw; go_simp; try rfl)
              try simp only [Act.put, List.setIfInBounds_toArray, List.set_cons_zero, List.set_cons_succ]
              refine' wpAnyH_take (i := 23) (oi := ⟨some 73, _, _, _, _, _⟩) (v := _) rfl (by kernel_rfl) (by kernel_rfl) (by kernel_rfl) (fun _ _ _ h => h) (Or.inl ⟨by rfl, ?y23a5⟩) trivial ?r23a5
              case y23a5 => (intro w' hSw; go_simp; try rfl)
              try simp only [Act.put, List.setIfInBounds_toArray, List.set_cons_zero, List.set_cons_succ]
              clear l6 l9
              refine wpAnyH_ready (by kernel_rfl) (by simp) (rs := [20, 24]) (AllReadyH.cons (i := 20) rfl (fun K hK => ?_) (AllReadyH.cons (i := 24) rfl (fun K hK => ?_) AllReadyH.nil))
              · skip
                go_simp
                have hx : Below x18.heap.size x18 (x18.alloc (.cells #[Value.slice A2 k c2, Value.slice none 0 0, Value.slice A3 n3 c3] 25)) := (Below.refl _ _).alloc (Nat.le_refl _) _
                have l20 := Sls.ofs x18 25 [Value.slice A2 k c2, Value.slice none 0 0, Value.slice A3 n3 c3] [b1, [], b2] (by exact ⟨rfl, fun j hj => by rcases j with _ | _ | _ | j; exact ⟨_, rfl, hbT⟩; exact ⟨_, rfl, Sl.nil _ _⟩; exact ⟨_, rfl, hbD⟩; exact absurd hj (by simp)⟩)
                replace hs0 := hs0.below hx
                replace hb0 := hb0.below hx
                replace hf0 := hf0.below hx
                replace hg0 := hg0.below hx
                replace hbT := hbT.below hx
                replace hbD := hbD.below hx
                replace hbw := hbw.trans (hx.mono hbw.size)
                clear hx
                generalize x18.alloc (.cells #[Value.slice A2 k c2, Value.slice none 0 0, Value.slice A3 n3 c3] 25) = x19 at hs0 hb0 hf0 hg0 hbT hbD hbw  l20 ⊢
                generalize x18.heap.size = gx19 at l20 ⊢
                refine hK.out _ _ trivial (fun _ => ?_)
                clear hK K
                refine wpAnyH_ready (by kernel_rfl) (by simp) (rs := [21, 24]) (AllReadyH.cons (i := 21) rfl (fun K hK => ?_) (AllReadyH.cons (i := 24) rfl (fun K hK => ?_) AllReadyH.nil))
                · skip
                  go_simp
                  refine (code_any _ _ s [b1, [], b2] _ hs0 l20 (by have := HLS.out; omega) (by have := HLB.out; rw [← HD.out] at this; simp at this ⊢; omega) (by simp) hg0).mono ?_
                  rintro e x20 ⟨rfl, hx⟩
                  rw [show [b1, [], b2].flatten = b by rw [← HD.out]; simp, ← HCC.out]
                  replace hs0 := hs0.below hx
                  replace hb0 := hb0.below hx
                  replace hf0 := hf0.below hx
                  replace hg0 := hg0.below hx
                  replace hbT := hbT.below hx
                  replace hbD := hbD.below hx
                  replace l20 := l20.below hx
                  replace hbw := hbw.trans (hx.mono hbw.size)
                  clear hx
                  refine hK.out _ _ trivial (fun _ => ?_)
                  clear hK K
                  refine held_one (i := 24) (by kernel_rfl) rfl (fun K hK => ?_)
                  go_simp
                  have hx : Below x20.heap.size x20 (x20.alloc (.cells #[Value.slice A2 n2 c2] 25)) := (Below.refl _ _).alloc (Nat.le_refl _) _
                  have l24 := Sls.ofs x20 25 [Value.slice A2 n2 c2] [b] (by exact ⟨rfl, fun j hj => by rcases j with _ | j; exact ⟨_, rfl, hb0⟩; exact absurd hj (by simp)⟩)
                  replace hs0 := hs0.below hx
                  replace hb0 := hb0.below hx
                  replace hf0 := hf0.below hx
                  replace hg0 := hg0.below hx
                  replace hbT := hbT.below hx
                  replace hbD := hbD.below hx
                  replace l20 := l20.below hx
                  replace hbw := hbw.trans (hx.mono hbw.size)
                  clear hx
                  generalize x20.alloc (.cells #[Value.slice A2 n2 c2] 25) = x21 at hs0 hb0 hf0 hg0 hbT hbD hbw l20 l24 ⊢
                  generalize x20.heap.size = gx21 at l24 ⊢
                  refine hK.out _ _ trivial (fun _ => ?_)
                  clear hK K
                  refine held_one (i := 25) (by kernel_rfl) rfl (fun K hK => ?_)
                  go_simp
                  refine (code_any _ _ f [b] _ hf0 l24 (by rw [lf]; decide) (by have := HLB.out; simp; omega) (by simp) hg0).mono ?_
                  rintro e x22 ⟨rfl, hx⟩
                  rw [show [b].flatten = b by simp, HCF.out, ← HCC.out]
                  replace hs0 := hs0.below hx
                  replace hb0 := hb0.below hx
                  replace hf0 := hf0.below hx
                  replace hg0 := hg0.below hx
                  replace hbT := hbT.below hx
                  replace hbD := hbD.below hx
                  replace l20 := l20.below hx
                  replace l24 := l24.below hx
                  replace hbw := hbw.trans (hx.mono hbw.size)
                  clear hx
                  refine hK.out _ _ trivial (fun _ => ?_)
                  clear hK K
                  refine' wpAnyH_take (i := 26) (oi := ⟨some 76, _, _, _, _, _⟩) (v := _) rfl (by kernel_rfl) (by kernel_rfl) (by kernel_rfl) (fun _ _ _ h => h) (Or.inl ⟨by rfl, ?y26b6⟩) trivial ?r26b6
                  case y26b6 => (intro w' hSw; have q := hch w'; go_simp; try rfl)
                  try simp only [Act.put, List.setIfInBounds_toArray, List.set_cons_zero, List.set_cons_succ]
                  refine' wpAnyH_take (i := 27) (oi := ⟨some 77, _, _, _, _, _⟩) (v := _) rfl (by kernel_rfl) (by kernel_rfl) (by kernel_rfl) (fun _ _ _ h => h) (Or.inl ⟨by rfl, ?y27b6⟩) trivial ?r27b6
                  case y27b6 => (intro w' hSw; go_simp; try rfl)
                  try simp only [Act.put, List.setIfInBounds_toArray, List.set_cons_zero, List.set_cons_succ]
                  refine' wpAnyH_take (i := 28) (oi := ⟨some 8, _, _, _, _, _⟩) (v := _) rfl (by kernel_rfl) (by kernel_rfl) (by kernel_rfl) (fun _ _ _ h => h) (Or.inl ⟨by rfl, ?y28b6⟩) trivial ?r28b6
                  case y28b6 => (intro w' hSw; go_simp; try rfl)
                  try simp only [Act.put, List.setIfInBounds_toArray, List.set_cons_zero, List.set_cons_succ]
                  refine wpAnyH_done (by kernel_rfl) ?_ _
                  go_wp2_with fail
                  go_ret
                  exact ⟨rfl, hbw⟩
                · skip
                  go_simp
                  have hx : Below x19.heap.size x19 (x19.alloc (.cells #[Value.slice A2 n2 c2] 25)) := (Below.refl _ _).alloc (Nat.le_refl _) _
                  have l24 := Sls.ofs x19 25 [Value.slice A2 n2 c2] [b] (by exact ⟨rfl, fun j hj => by rcases j with _ | j; exact ⟨_, rfl, hb0⟩; exact absurd hj (by simp)⟩)
                  replace hs0 := hs0.below hx
                  replace hb0 := hb0.below hx
                  replace hf0 := hf0.below hx
                  replace hg0 := hg0.below hx
                  replace hbT := hbT.below hx
                  replace hbD := hbD.below hx
                  replace l20 := l20.below hx
                  replace hbw := hbw.trans (hx.mono hbw.size)
                  clear hx
                  generalize x19.alloc (.cells #[Value.slice A2 n2 c2] 25) = x23 at hs0 hb0 hf0 hg0 hbT hbD hbw l20 l24 ⊢
                  generalize x19.heap.size = gx23 at l24 ⊢
                  refine hK.out _ _ trivial (fun _ => ?_)
                  clear hK K
                  refine held_one (i := 21) (by kernel_rfl) rfl (fun K hK => ?_)
                  go_simp
                  refine (code_any _ _ s [b1, [], b2] _ hs0 l20 (by have := HLS.out; omega) (by have := HLB.out; rw [← HD.out] at this; simp at this ⊢; omega) (by simp) hg0).mono ?_
                  rintro e x24 ⟨rfl, hx⟩
                  rw [show [b1, [], b2].flatten = b by rw [← HD.out]; simp, ← HCC.out]
                  replace hs0 := hs0.below hx
                  replace hb0 := hb0.below hx
                  replace hf0 := hf0.below hx
                  replace hg0 := hg0.below hx
                  replace hbT := hbT.below hx
                  replace hbD := hbD.below hx
                  replace l20 := l20.below hx
                  replace l24 := l24.below hx
                  replace hbw := hbw.trans (hx.mono hbw.size)
                  clear hx
                  refine hK.out _ _ trivial (fun _ => ?_)
                  clear hK K
                  refine held_one (i := 25) (by kernel_rfl) rfl (fun K hK => ?_)
                  go_simp
                  refine (code_any _ _ f [b] _ hf0 l24 (by rw [lf]; decide) (by have := HLB.out; simp; omega) (by simp) hg0).mono ?_
                  rintro e x25 ⟨rfl, hx⟩
                  rw [show [b].flatten = b by simp, HCF.out, ← HCC.out]
                  replace hs0 := hs0.below hx
                  replace hb0 := hb0.below hx
                  replace hf0 := hf0.below hx
                  replace hg0 := hg0.below hx
                  replace hbT := hbT.below hx
                  replace hbD := hbD.below hx
                  replace l20 := l20.below hx
                  replace l24 := l24.below hx
                  replace hbw := hbw.trans (hx.mono hbw.size)
                  clear hx
                  refine hK.out _ _ trivial (fun _ => ?_)
                  clear hK K
                  refine' wpAnyH_take (i := 26) (oi := ⟨some 76, _, _, _, _, _⟩) (v := _) rfl (by kernel_rfl) (by kernel_rfl) (by kernel_rfl) (fun _ _ _ h => h) (Or.inl ⟨by rfl, ?y26b7⟩) trivial ?r26b7
                  case y26b7 => (intro w' hSw; have q := hch w'; go_simp; try rfl)
                  try simp only [Act.put, List.setIfInBounds_toArray, List.set_cons_zero, List.set_cons_succ]
                  refine' wpAnyH_take (i := 27) (oi := ⟨some 77, _, _, _, _, _⟩) (v := _) rfl (by kernel_rfl) (by kernel_rfl) (by kernel_rfl) (fun _ _ _ h => h) (Or.inl ⟨by rfl, ?y27b7⟩) trivial ?r27b7
                  case y27b7 => (intro w' hSw; go_simp; try rfl)
                  try simp only [Act.put, List.setIfInBounds_toArray, List.set_cons_zero, List.set_cons_succ]
                  refine' wpAnyH_take (i := 28) (oi := ⟨some 8, _, _, _, _, _⟩) (v := _) rfl (by kernel_rfl) (by kernel_rfl) (by kernel_rfl) (fun _ _ _ h => h) (Or.inl ⟨by rfl, ?y28b7⟩) trivial ?r28b7
                  case y28b7 => (intro w' hSw; go_simp; try rfl)
                  try simp only [Act.put, List.setIfInBounds_toArray, List.set_cons_zero, List.set_cons_succ]
                  refine wpAnyH_done (by kernel_rfl) ?_ _
                  go_wp2_with fail
                  go_ret
                  exact ⟨rfl, hbw⟩
              · skip
                go_simp
                have hx : Below x18.heap.size x18 (x18.alloc (.cells #[Value.slice A2 n2 c2] 25)) := (Below.refl _ _).alloc (Nat.le_refl _) _
                have l24 := Sls.ofs x18 25 [Value.slice A2 n2 c2] [b] (by exact ⟨rfl, fun j hj => by rcases j with _ | j; exact ⟨_, rfl, hb0⟩; exact absurd hj (by simp)⟩)
                replace hs0 := hs0.below hx
                replace hb0 := hb0.below hx
                replace hf0 := hf0.below hx
                replace hg0 := hg0.below hx
                replace hbT := hbT.below hx
                replace hbD := hbD.below hx
                replace hbw := hbw.trans (hx.mono hbw.size)
                clear hx
                generalize x18.alloc (.cells #[Value.slice A2 n2 c2] 25) = x26 at hs0 hb0 hf0 hg0 hbT hbD hbw  l24 ⊢
                generalize x18.heap.size = gx26 at l24 ⊢
                refine hK.out _ _ trivial (fun _ => ?_)
                clear hK K
                refine held_one (i := 20) (by kernel_rfl) rfl (fun K hK => ?_)
                go_simp
                have hx : Below x26.heap.size x26 (x26.alloc (.cells #[Value.slice A2 k c2, Value.slice none 0 0, Value.slice A3 n3 c3] 25)) := (Below.refl _ _).alloc (Nat.le_refl _) _
                have l20 := Sls.ofs x26 25 [Value.slice A2 k c2, Value.slice none 0 0, Value.slice A3 n3 c3] [b1, [], b2] (by exact ⟨rfl, fun j hj => by rcases j with _ | _ | _ | j; exact ⟨_, rfl, hbT⟩; exact ⟨_, rfl, Sl.nil _ _⟩; exact ⟨_, rfl, hbD⟩; exact absurd hj (by simp)⟩)
                replace hs0 := hs0.below hx
                replace hb0 := hb0.below hx
                replace hf0 := hf0.below hx
                replace hg0 := hg0.below hx
                replace hbT := hbT.below hx
                replace hbD := hbD.below hx
                replace l24 := l24.below hx
                replace hbw := hbw.trans (hx.mono hbw.size)
                clear hx
                generalize x26.alloc (.cells #[Value.slice A2 k c2, Value.slice none 0 0, Value.slice A3 n3 c3] 25) = x27 at hs0 hb0 hf0 hg0 hbT hbD hbw l24 l20 ⊢
                generalize x26.heap.size = gx27 at l20 ⊢
                refine hK.out _ _ trivial (fun _ => ?_)
                clear hK K
                refine held_one (i := 21) (by kernel_rfl) rfl (fun K hK => ?_)
                go_simp
                refine (code_any _ _ s [b1, [], b2] _ hs0 l20 (by have := HLS.out; omega) (by have := HLB.out; rw [← HD.out] at this; simp at this ⊢; omega) (by simp) hg0).mono ?_
                rintro e x28 ⟨rfl, hx⟩
                rw [show [b1, [], b2].flatten = b by rw [← HD.out]; simp, ← HCC.out]
                replace hs0 := hs0.below hx
                replace hb0 := hb0.below hx
                replace hf0 := hf0.below hx
                replace hg0 := hg0.below hx
                replace hbT := hbT.below hx
                replace hbD := hbD.below hx
                replace l24 := l24.below hx
                replace l20 := l20.below hx
                replace hbw := hbw.trans (hx.mono hbw.size)
                clear hx
                refine hK.out _ _ trivial (fun _ => ?_)
                clear hK K
                refine held_one (i := 25) (by kernel_rfl) rfl (fun K hK => ?_)
                go_simp
                refine (code_any _ _ f [b] _ hf0 l24 (by rw [lf]; decide) (by have := HLB.out; simp; omega) (by simp) hg0).mono ?_
                rintro e x29 ⟨rfl, hx⟩
                rw [show [b].flatten = b by simp, HCF.out, ← HCC.out]
                replace hs0 := hs0.below hx
                replace hb0 := hb0.below hx
                replace hf0 := hf0.below hx
                replace hg0 := hg0.below hx
                replace hbT := hbT.below hx
                replace hbD := hbD.below hx
                replace l24 := l24.below hx
                replace l20 := l20.below hx
                replace hbw := hbw.trans (hx.mono hbw.size)
                clear hx
                refine hK.out _ _ trivial (fun _ => ?_)
                clear hK K
                refine' wpAnyH_take (i := 26) (oi := ⟨some 76, _, _, _, _, _⟩) (v := _) rfl (by kernel_rfl) (by kernel_rfl) (by kernel_rfl) (fun _ _ _ h => h) (Or.inl ⟨by rfl, ?y26b8⟩) trivial ?r26b8
                case y26b8 => (intro w' hSw; have q := hch w'; go_simp; try rfl)
                try simp only [Act.put, List.setIfInBounds_toArray, List.set_cons_zero, List.set_cons_succ]
                refine' wpAnyH_take (i := 27) (oi := ⟨some 77, _, _, _, _, _⟩) (v := _) rfl (by kernel_rfl) (by kernel_rfl) (by kernel_rfl) (fun _ _ _ h => h) (Or.inl ⟨by rfl, ?y27b8⟩) trivial ?r27b8
                case y27b8 => (intro w' hSw; go_simp; try rfl)
                try simp only [Act.put, List.setIfInBounds_toArray, List.set_cons_zero, List.set_cons_succ]
                refine' wpAnyH_take (i := 28) (oi := ⟨some 8, _, _, _, _, _⟩) (v := _) rfl (by kernel_rfl) (by kernel_rfl) (by kernel_rfl) (fun _ _ _ h => h) (Or.inl ⟨by rfl, ?y28b8⟩) trivial ?r28b8
                case y28b8 => (intro w' hSw; go_simp; try rfl)
                try simp only [Act.put, List.setIfInBounds_toArray, List.set_cons_zero, List.set_cons_succ]
                refine wpAnyH_done (by kernel_rfl) ?_ _
                go_wp2_with fail
                go_ret
                exact ⟨rfl, hbw⟩
          · skip
            go_simp
            have hx : Below x0.heap.size x0 (x0.alloc (.cells #[Value.slice A2 n2 c2] 25)) := (Below.refl _ _).alloc (Nat.le_refl _) _
            have l9 := Sls.ofs x0 25 [Value.slice A2 n2 c2] [b] (by exact ⟨rfl, fun j hj => by rcases j with _ | j; exact ⟨_, rfl, hb0⟩; exact absurd hj (by simp)⟩)
            replace hs0 := hs0.below hx
            replace hb0 := hb0.below hx
            replace hf0 := hf0.below hx
            replace hg0 := hg0.below hx
            replace hbT := hbT.below hx
            replace hbD := hbD.below hx
            replace hbw := hbw.trans (hx.mono hbw.size)
            clear hx
            generalize x0.alloc (.cells #[Value.slice A2 n2 c2] 25) = x30 at hs0 hb0 hf0 hg0 hbT hbD hbw  l9 ⊢
            generalize x0.heap.size = gx30 at l9 ⊢
            refine hK.out _ _ trivial (fun _ => ?_)
            clear hK K
            refine held_one (i := 6) (by kernel_rfl) rfl (fun K hK => ?_)
            go_simp
            have hx : Below x30.heap.size x30 (x30.alloc (.cells #[Value.slice A2 k c2, Value.slice A3 n3 c3] 25)) := (Below.refl _ _).alloc (Nat.le_refl _) _
            have l6 := Sls.ofs x30 25 [Value.slice A2 k c2, Value.slice A3 n3 c3] [b1, b2] (by exact ⟨rfl, fun j hj => by rcases j with _ | _ | j; exact ⟨_, rfl, hbT⟩; exact ⟨_, rfl, hbD⟩; exact absurd hj (by simp)⟩)
            replace hs0 := hs0.below hx
            replace hb0 := hb0.below hx
            replace hf0 := hf0.below hx
            replace hg0 := hg0.below hx
            replace hbT := hbT.below hx
            replace hbD := hbD.below hx
            replace l9 := l9.below hx
            replace hbw := hbw.trans (hx.mono hbw.size)
            clear hx
            generalize x30.alloc (.cells #[Value.slice A2 k c2, Value.slice A3 n3 c3] 25) = x31 at hs0 hb0 hf0 hg0 hbT hbD hbw l9 l6 ⊢
            generalize x30.heap.size = gx31 at l6 ⊢
            refine hK.out _ _ trivial (fun _ => ?_)
            clear hK K
            refine held_one (i := 7) (by kernel_rfl) rfl (fun K hK => ?_)
            go_simp
            refine (sum_any _ [b1, b2] _ l6 (by have := HLB.out; rw [← HD.out] at this; simp at this ⊢; omega) (by simp) hg0).mono ?_
            rintro e x32 ⟨rfl, hx⟩
            rw [show [b1, b2].flatten = b by rw [← HD.out]; simp, ← HRR.out]
            replace hs0 := hs0.below hx
            replace hb0 := hb0.below hx
            replace hf0 := hf0.below hx
            replace hg0 := hg0.below hx
            replace hbT := hbT.below hx
            replace hbD := hbD.below hx
            replace l9 := l9.below hx
            replace l6 := l6.below hx
            replace hbw := hbw.trans (hx.mono hbw.size)
            clear hx
            refine hK.out _ _ trivial (fun _ => ?_)
            clear hK K
            refine held_one (i := 10) (by kernel_rfl) rfl (fun K hK => ?_)
            go_simp
            refine (sum_any _ [b] _ l9 (by have := HLB.out; simp; omega) (by simp) hg0).mono ?_
            rintro e x33 ⟨rfl, hx⟩
            rw [show [b].flatten = b by simp, ← HRR.out]
            replace hs0 := hs0.below hx
            replace hb0 := hb0.below hx
            replace hf0 := hf0.below hx
            replace hg0 := hg0.below hx
            replace hbT := hbT.below hx
            replace hbD := hbD.below hx
            replace l9 := l9.below hx
            replace l6 := l6.below hx
            replace hbw := hbw.trans (hx.mono hbw.size)
            clear hx
            refine hK.out _ _ trivial (fun _ => ?_)
            clear hK K
            refine' wpAnyH_take (i := 11) (oi := ⟨some 61, _, _, _, _, _⟩) (v := _) rfl (by kernel_rfl) (by kernel_rfl) (by kernel_rfl) (fun _ _ _ h => h) (Or.inl ⟨by rfl, ?y11a9⟩) trivial ?r11a9
            case y11a9 => (intro w' hSw; have q := hsh w'; go_simp; try rfl)
            try simp only [Act.put, List.setIfInBounds_toArray, List.set_cons_zero, List.set_cons_succ]
            refine' wpAnyH_take (i := 12) (oi := ⟨some 62, _, _, _, _, _⟩) (v := _) rfl (by kernel_rfl) (by kernel_rfl) (by kernel_rfl) (fun _ _ _ h => h) (Or.inl ⟨by rfl, ?y12a9⟩) trivial ?r12a9
            case y12a9 => (intro w' hSw; go_simp; try rfl)
            try simp only [Act.put, List.setIfInBounds_toArray, List.set_cons_zero, List.set_cons_succ]
            refine' wpAnyH_take (i := 13) (oi := ⟨some 63, _, _, _, _, _⟩) (v := _) rfl (by kernel_rfl) (by kernel_rfl) (by kernel_rfl) (fun _ _ _ h => h) (Or.inl ⟨by rfl, ?y13a9⟩) trivial ?r13a9
            case y13a9 => (intro w' hSw; go_simp; try rfl)
            try simp only [Act.put, List.setIfInBounds_toArray, List.set_cons_zero, List.set_cons_succ]
            refine' wpAnyH_take (i := 14) (oi := ⟨some 64, _, _, _, _, _⟩) (v := _) rfl (by kernel_rfl) (by kernel_rfl) (by kernel_rfl) (fun _ _ _ h => h) (Or.inl ⟨by rfl, ?y14a9⟩) trivial ?r14a9
            case y14a9 => (intro w' hSw; go_simp; try rfl)
            try simp only [Act.put, List.setIfInBounds_toArray, List.set_cons_zero, List.set_cons_succ]
            refine' wpAnyH_take (i := 15) (oi := ⟨some 65, _, _, _, _, _⟩) (v := _) rfl (by kernel_rfl) (by kernel_rfl) (by kernel_rfl) (fun _ _ _ h => h) (Or.inl ⟨by rfl, ?y15a9⟩) trivial ?r15a9
            case y15a9 => (intro w' hSw; go_simp; try rfl)
            try simp only [Act.put, List.setIfInBounds_toArray, List.set_cons_zero, List.set_cons_succ]
            refine' wpAnyH_take (i := 16) (oi := ⟨some 66, _, _, _, _, _⟩) (v := _) rfl (by kernel_rfl) (by kernel_rfl) (by kernel_rfl) (fun _ _ _ h => h) (Or.inl ⟨by rfl, ?y16a9⟩) trivial ?r16a9
            case y16a9 => (intro w' hSw; go_simp; try rfl)
            try simp only [Act.put, List.setIfInBounds_toArray, List.set_cons_zero, List.set_cons_succ]
            refine' wpAnyH_take (i := 17) (oi := ⟨some 67, _, _, _, _, _⟩) (v := _) rfl (by kernel_rfl) (by kernel_rfl) (by kernel_rfl) (fun _ _ _ h => h) (Or.inl ⟨by rfl, ?y17a9⟩) trivial ?r17a9
            case y17a9 => (intro w' hSw; go_simp; try rfl)
            try simp only [Act.put, List.setIfInBounds_toArray, List.set_cons_zero, List.set_cons_succ]
            refine' wpAnyH_take (i := 18) (oi := ⟨some 68, _, _, _, _, _⟩) (v := _) rfl (by kernel_rfl) (by kernel_rfl) (by kernel_rfl) (fun _ _ _ h => h) (Or.inl ⟨by rfl, ?y18a9⟩) trivial ?r18a9
            case y18a9 => (intro w' hSw; go_simp; try rfl)
            try simp only [Act.put, List.setIfInBounds_toArray, List.set_cons_zero, List.set_cons_succ]
            refine' wpAnyH_take (i := 19) (oi := ⟨some 69, _, _, _, _, _⟩) (v := _) rfl (by kernel_rfl) (by kernel_rfl) (by kernel_rfl) (fun _ _ _ h => h) (Or.inl ⟨by rfl, ?y19a9⟩) trivial ?r19a9
            case y19a9 => (intro w' hSw; have e1 := HeA3.out; have e2 := Hen3.out; have e3 := Hec3.out; go_simp; try rfl)
            try simp only [Act.put, List.setIfInBounds_toArray, List.set_cons_zero, List.set_cons_succ]
            refine' wpAnyH_take (i := 22) (oi := ⟨some 72, _, _, _, _, _⟩) (v := _) rfl (by kernel_rfl) (by kernel_rfl) (by kernel_rfl) (fun _ _ _ h => h) (Or.inl ⟨by rfl, ?y22a9⟩) trivial ?r22a9
            case y22a9 => (intro w' hSw; go_simp; try rfl)
            try simp only [Act.put, List.setIfInBounds_toArray, List.set_cons_zero, List.set_cons_succ]
            refine' wpAnyH_take (i := 23) (oi := ⟨some 73, _, _, _, _, _⟩) (v := _) rfl (by kernel_rfl) (by kernel_rfl) (by kernel_rfl) (fun _ _ _ h => h) (Or.inl ⟨by rfl, ?y23a9⟩) trivial ?r23a9
            case y23a9 => (intro w' hSw; go_simp; try rfl)
            try simp only [Act.put, List.setIfInBounds_toArray, List.set_cons_zero, List.set_cons_succ]
            clear l9 l6
            refine wpAnyH_ready (by kernel_rfl) (by simp) (rs := [20, 24]) (AllReadyH.cons (i := 20) rfl (fun K hK => ?_) (AllReadyH.cons (i := 24) rfl (fun K hK => ?_) AllReadyH.nil))
            · skip
              go_simp
              have hx : Below x33.heap.size x33 (x33.alloc (.cells #[Value.slice A2 k c2, Value.slice none 0 0, Value.slice A3 n3 c3] 25)) := (Below.refl _ _).alloc (Nat.le_refl _) _
              have l20 := Sls.ofs x33 25 [Value.slice A2 k c2, Value.slice none 0 0, Value.slice A3 n3 c3] [b1, [], b2] (by exact ⟨rfl, fun j hj => by rcases j with _ | _ | _ | j; exact ⟨_, rfl, hbT⟩; exact ⟨_, rfl, Sl.nil _ _⟩; exact ⟨_, rfl, hbD⟩; exact absurd hj (by simp)⟩)
              replace hs0 := hs0.below hx
              replace hb0 := hb0.below hx
              replace hf0 := hf0.below hx
              replace hg0 := hg0.below hx
              replace hbT := hbT.below hx
              replace hbD := hbD.below hx
              replace hbw := hbw.trans (hx.mono hbw.size)
              clear hx
              generalize x33.alloc (.cells #[Value.slice A2 k c2, Value.slice none 0 0, Value.slice A3 n3 c3] 25) = x34 at hs0 hb0 hf0 hg0 hbT hbD hbw  l20 ⊢
              generalize x33.heap.size = gx34 at l20 ⊢
              refine hK.out _ _ trivial (fun _ => ?_)
              clear hK K
              refine wpAnyH_ready (by kernel_rfl) (by simp) (rs := [21, 24]) (AllReadyH.cons (i := 21) rfl (fun K hK => ?_) (AllReadyH.cons (i := 24) rfl (fun K hK => ?_) AllReadyH.nil))
              · skip
                go_simp
                refine (code_any _ _ s [b1, [], b2] _ hs0 l20 (by have := HLS.out; omega) (by have := HLB.out; rw [← HD.out] at this; simp at this ⊢; omega) (by simp) hg0).mono ?_
                rintro e x35 ⟨rfl, hx⟩
                rw [show [b1, [], b2].flatten = b by rw [← HD.out]; simp, ← HCC.out]
                replace hs0 := hs0.below hx
                replace hb0 := hb0.below hx
                replace hf0 := hf0.below hx
                replace hg0 := hg0.below hx
                replace hbT := hbT.below hx
                replace hbD := hbD.below hx
                replace l20 := l20.below hx
                replace hbw := hbw.trans (hx.mono hbw.size)
                clear hx
                refine hK.out _ _ trivial (fun _ => ?_)
                clear hK K
                refine held_one (i := 24) (by kernel_rfl) rfl (fun K hK => ?_)
                go_simp
                have hx : Below x35.heap.size x35 (x35.alloc (.cells #[Value.slice A2 n2 c2] 25)) := (Below.refl _ _).alloc (Nat.le_refl _) _
                have l24 := Sls.ofs x35 25 [Value.slice A2 n2 c2] [b] (by exact ⟨rfl, fun j hj => by rcases j with _ | j; exact ⟨_, rfl, hb0⟩; exact absurd hj (by simp)⟩)
                replace hs0 := hs0.below hx
                replace hb0 := hb0.below hx
                replace hf0 := hf0.below hx
                replace hg0 := hg0.below hx
                replace hbT := hbT.below hx
                replace hbD := hbD.below hx
                replace l20 := l20.below hx
                replace hbw := hbw.trans (hx.mono hbw.size)
                clear hx
                generalize x35.alloc (.cells #[Value.slice A2 n2 c2] 25) = x36 at hs0 hb0 hf0 hg0 hbT hbD hbw l20 l24 ⊢
                generalize x35.heap.size = gx36 at l24 ⊢
                refine hK.out _ _ trivial (fun _ => ?_)
                clear hK K
                refine held_one (i := 25) (by kernel_rfl) rfl (fun K hK => ?_)
                go_simp
                refine (code_any _ _ f [b] _ hf0 l24 (by rw [lf]; decide) (by have := HLB.out; simp; omega) (by simp) hg0).mono ?_
                rintro e x37 ⟨rfl, hx⟩
                rw [show [b].flatten = b by simp, HCF.out, ← HCC.out]
                replace hs0 := hs0.below hx
                replace hb0 := hb0.below hx
                replace hf0 := hf0.below hx
                replace hg0 := hg0.below hx
                replace hbT := hbT.below hx
                replace hbD := hbD.below hx
                replace l20 := l20.below hx
                replace l24 := l24.below hx
                replace hbw := hbw.trans (hx.mono hbw.size)
                clear hx
                refine hK.out _ _ trivial (fun _ => ?_)
                clear hK K
                refine' wpAnyH_take (i := 26) (oi := ⟨some 76, _, _, _, _, _⟩) (v := _) rfl (by kernel_rfl) (by kernel_rfl) (by kernel_rfl) (fun _ _ _ h => h) (Or.inl ⟨by rfl, ?y26b10⟩) trivial ?r26b10
                case y26b10 => (intro w' hSw; have q := hch w'; go_simp; try rfl)
                try simp only [Act.put, List.setIfInBounds_toArray, List.set_cons_zero, List.set_cons_succ]
                refine' wpAnyH_take (i := 27) (oi := ⟨some 77, _, _, _, _, _⟩) (v := _) rfl (by kernel_rfl) (by kernel_rfl) (by kernel_rfl) (fun _ _ _ h => h) (Or.inl ⟨by rfl, ?y27b10⟩) trivial ?r27b10
                case y27b10 => (intro w' hSw; go_simp; try rfl)
                try simp only [Act.put, List.setIfInBounds_toArray, List.set_cons_zero, List.set_cons_succ]
                refine' wpAnyH_take (i := 28) (oi := ⟨some 8, _, _, _, _, _⟩) (v := _) rfl (by kernel_rfl) (by kernel_rfl) (by kernel_rfl) (fun _ _ _ h => h) (Or.inl ⟨by rfl, ?y28b10⟩) trivial ?r28b10
                case y28b10 => (intro w' hSw; go_simp; try rfl)
                try simp only [Act.put, List.setIfInBounds_toArray, List.set_cons_zero, List.set_cons_succ]
                refine wpAnyH_done (by kernel_rfl) ?_ _
                go_wp2_with fail
                go_ret
                exact ⟨rfl, hbw⟩
              · skip
                go_simp
                have hx : Below x34.heap.size x34 (x34.alloc (.cells #[Value.slice A2 n2 c2] 25)) := (Below.refl _ _).alloc (Nat.le_refl _) _
                have l24 := Sls.ofs x34 25 [Value.slice A2 n2 c2] [b] (by exact ⟨rfl, fun j hj => by rcases j with _ | j; exact ⟨_, rfl, hb0⟩; exact absurd hj (by simp)⟩)
                replace hs0 := hs0.below hx
                replace hb0 := hb0.below hx
                replace hf0 := hf0.below hx
                replace hg0 := hg0.below hx
                replace hbT := hbT.below hx
                replace hbD := hbD.below hx
                replace l20 := l20.below hx
                replace hbw := hbw.trans (hx.mono hbw.size)
                clear hx
                generalize x34.alloc (.cells #[Value.slice A2 n2 c2] 25) = x38 at hs0 hb0 hf0 hg0 hbT hbD hbw l20 l24 ⊢
                generalize x34.heap.size = gx38 at l24 ⊢
                refine hK.out _ _ trivial (fun _ => ?_)
                clear hK K
                refine held_one (i := 21) (by kernel_rfl) rfl (fun K hK => ?_)
                go_simp
                refine (code_any _ _ s [b1, [], b2] _ hs0 l20 (by have := HLS.out; omega) (by have := HLB.out; rw [← HD.out] at this; simp at this ⊢; omega) (by simp) hg0).mono ?_
                rintro e x39 ⟨rfl, hx⟩
                rw [show [b1, [], b2].flatten = b by rw [← HD.out]; simp, ← HCC.out]
                replace hs0 := hs0.below hx
                replace hb0 := hb0.below hx
                replace hf0 := hf0.below hx
                replace hg0 := hg0.below hx
                replace hbT := hbT.below hx
                replace hbD := hbD.below hx
                replace l20 := l20.below hx
                replace l24 := l24.below hx
                replace hbw := hbw.trans (hx.mono hbw.size)
                clear hx
                refine hK.out _ _ trivial (fun _ => ?_)
                clear hK K
                refine held_one (i := 25) (by kernel_rfl) rfl (fun K hK => ?_)
                go_simp
                refine (code_any _ _ f [b] _ hf0 l24 (by rw [lf]; decide) (by have := HLB.out; simp; omega) (by simp) hg0).mono ?_
                rintro e x40 ⟨rfl, hx⟩
                rw [show [b].flatten = b by simp, HCF.out, ← HCC.out]
                replace hs0 := hs0.below hx
                replace hb0 := hb0.below hx
                replace hf0 := hf0.below hx
                replace hg0 := hg0.below hx
                replace hbT := hbT.below hx
                replace hbD := hbD.below hx
                replace l20 := l20.below hx
                replace l24 := l24.below hx
                replace hbw := hbw.trans (hx.mono hbw.size)
                clear hx
                refine hK.out _ _ trivial (fun _ => ?_)
                clear hK K
                refine' wpAnyH_take (i := 26) (oi := ⟨some 76, _, _, _, _, _⟩) (v := _) rfl (by kernel_rfl) (by kernel_rfl) (by kernel_rfl) (fun _ _ _ h => h) (Or.inl ⟨by rfl, ?y26b11⟩) trivial ?r26b11
                case y26b11 => (intro w' hSw; have q := hch w'; go_simp; try rfl)
                try simp only [Act.put, List.setIfInBounds_toArray, List.set_cons_zero, List.set_cons_succ]
                refine' wpAnyH_take (i := 27) (oi := ⟨some 77, _, _, _, _, _⟩) (v := _) rfl (by kernel_rfl) (by kernel_rfl) (by kernel_rfl) (fun _ _ _ h => h) (Or.inl ⟨by rfl, ?y27b11⟩) trivial ?r27b11
                case y27b11 => (intro w' hSw; go_simp; try rfl)
                try simp only [Act.put, List.setIfInBounds_toArray, List.set_cons_zero, List.set_cons_succ]
                refine' wpAnyH_take (i := 28) (oi := ⟨some 8, _, _, _, _, _⟩) (v := _) rfl (by kernel_rfl) (by kernel_rfl) (by kernel_rfl) (fun _ _ _ h => h) (Or.inl ⟨by rfl, ?y28b11⟩) trivial ?r28b11
                case y28b11 => (intro w' hSw; go_simp; try rfl)
                try simp only [Act.put, List.setIfInBounds_toArray, List.set_cons_zero, List.set_cons_succ]
                refine wpAnyH_done (by kernel_rfl) ?_ _
                go_wp2_with fail
                go_ret
                exact ⟨rfl, hbw⟩
            · skip
              go_simp
              have hx : Below x33.heap.size x33 (x33.alloc (.cells #[Value.slice A2 n2 c2] 25)) := (Below.refl _ _).alloc (Nat.le_refl _) _
              have l24 := Sls.ofs x33 25 [Value.slice A2 n2 c2] [b] (by exact ⟨rfl, fun j hj => by rcases j with _ | j; exact ⟨_, rfl, hb0⟩; exact absurd hj (by simp)⟩)
              replace hs0 := hs0.below hx
              replace hb0 := hb0.below hx
              replace hf0 := hf0.below hx
              replace hg0 := hg0.below hx
              replace hbT := hbT.below hx
              replace hbD := hbD.below hx
              replace hbw := hbw.trans (hx.mono hbw.size)
              clear hx
              generalize x33.alloc (.cells #[Value.slice A2 n2 c2] 25) = x41 at hs0 hb0 hf0 hg0 hbT hbD hbw  l24 ⊢
              generalize x33.heap.size = gx41 at l24 ⊢
              refine hK.out _ _ trivial (fun _ => ?_)
              clear hK K
              refine held_one (i := 20) (by kernel_rfl) rfl (fun K hK => ?_)
              go_simp
              have hx : Below x41.heap.size x41 (x41.alloc (.cells #[Value.slice A2 k c2, Value.slice none 0 0, Value.slice A3 n3 c3] 25)) := (Below.refl _ _).alloc (Nat.le_refl _) _
              have l20 := Sls.ofs x41 25 [Value.slice A2 k c2, Value.slice none 0 0, Value.slice A3 n3 c3] [b1, [], b2] (by exact ⟨rfl, fun j hj => by rcases j with _ | _ | _ | j; exact ⟨_, rfl, hbT⟩; exact ⟨_, rfl, Sl.nil _ _⟩; exact ⟨_, rfl, hbD⟩; exact absurd hj (by simp)⟩)
              replace hs0 := hs0.below hx
              replace hb0 := hb0.below hx
              replace hf0 := hf0.below hx
              replace hg0 := hg0.below hx
              replace hbT := hbT.below hx
              replace hbD := hbD.below hx
              replace l24 := l24.below hx
              replace hbw := hbw.trans (hx.mono hbw.size)
              clear hx
              generalize x41.alloc (.cells #[Value.slice A2 k c2, Value.slice none 0 0, Value.slice A3 n3 c3] 25) = x42 at hs0 hb0 hf0 hg0 hbT hbD hbw l24 l20 ⊢
              generalize x41.heap.size = gx42 at l20 ⊢
              refine hK.out _ _ trivial (fun _ => ?_)
              clear hK K
              refine held_one (i := 21) (by kernel_rfl) rfl (fun K hK => ?_)
              go_simp
              refine (code_any _ _ s [b1, [], b2] _ hs0 l20 (by have := HLS.out; omega) (by have := HLB.out; rw [← HD.out] at this; simp at this ⊢; omega) (by simp) hg0).mono ?_
              rintro e x43 ⟨rfl, hx⟩
              rw [show [b1, [], b2].flatten = b by rw [← HD.out]; simp, ← HCC.out]
              replace hs0 := hs0.below hx
              replace hb0 := hb0.below hx
              replace hf0 := hf0.below hx
              replace hg0 := hg0.below hx
              replace hbT := hbT.below hx
              replace hbD := hbD.below hx
              replace l24 := l24.below hx
              replace l20 := l20.below hx
              replace hbw := hbw.trans (hx.mono hbw.size)
              clear hx
              refine hK.out _ _ trivial (fun _ => ?_)
              clear hK K
              refine held_one (i := 25) (by kernel_rfl) rfl (fun K hK => ?_)
              go_simp
              refine (code_any _ _ f [b] _ hf0 l24 (by rw [lf]; decide) (by have := HLB.out; simp; omega) (by simp) hg0).mono ?_
              rintro e x44 ⟨rfl, hx⟩
              rw [show [b].flatten = b by simp, HCF.out, ← HCC.out]
              replace hs0 := hs0.below hx
              replace hb0 := hb0.below hx
              replace hf0 := hf0.below hx
              replace hg0 := hg0.below hx
              replace hbT := hbT.below hx
              replace hbD := hbD.below hx
              replace l24 := l24.below hx
              replace l20 := l20.below hx
              replace hbw := hbw.trans (hx.mono hbw.size)
              clear hx
              refine hK.out _ _ trivial (fun _ => ?_)
              clear hK K
              refine' wpAnyH_take (i := 26) (oi := ⟨some 76, _, _, _, _, _⟩) (v := _) rfl (by kernel_rfl) (by kernel_rfl) (by kernel_rfl) (fun _ _ _ h => h) (Or.inl ⟨by rfl, ?y26b12⟩) trivial ?r26b12
              case y26b12 => (intro w' hSw; have q := hch w'; go_simp; try rfl)
              try simp only [Act.put, List.setIfInBounds_toArray, List.set_cons_zero, List.set_cons_succ]
              refine' wpAnyH_take (i := 27) (oi := ⟨some 77, _, _, _, _, _⟩) (v := _) rfl (by kernel_rfl) (by kernel_rfl) (by kernel_rfl) (fun _ _ _ h => h) (Or.inl ⟨by rfl, ?y27b12⟩) trivial ?r27b12
              case y27b12 => (intro w' hSw; go_simp; try rfl)
              try simp only [Act.put, List.setIfInBounds_toArray, List.set_cons_zero, List.set_cons_succ]
              refine' wpAnyH_take (i := 28) (oi := ⟨some 8, _, _, _, _, _⟩) (v := _) rfl (by kernel_rfl) (by kernel_rfl) (by kernel_rfl) (fun _ _ _ h => h) (Or.inl ⟨by rfl, ?y28b12⟩) trivial ?r28b12
              case y28b12 => (intro w' hSw; go_simp; try rfl)
              try simp only [Act.put, List.setIfInBounds_toArray, List.set_cons_zero, List.set_cons_succ]
              refine wpAnyH_done (by kernel_rfl) ?_ _
              go_wp2_with fail
              go_ret
              exact ⟨rfl, hbw⟩
end Go.Proofs.YtggijgclnnlfmaaDoor

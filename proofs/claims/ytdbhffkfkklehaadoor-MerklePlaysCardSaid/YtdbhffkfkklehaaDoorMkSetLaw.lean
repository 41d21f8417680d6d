/-
  Leaves of empty buckets, by the document; the walk of the law's set.
-/
import Derived.Test.YtdbhffkfkklehaaDoorMkStandsA
import Derived.Test.YtdbhffkfkklehaaDoorMkSteps
namespace Go.Proofs.YtdbhffkfkklehaaDoor
open Go.RowKit
set_option linter.unusedVariables false
set_option linter.unusedSimpArgs false
set_option maxRecDepth 100000

set_option maxHeartbeats 2000000 in
theorem refEmpty_any (w : World) : Calls Tryd.prog 10 #[] w fun e w' => ∃ v, e = .returned v ∧ OwnH w' w.heap.size v (emptyL 64) ∧ Below w.heap.size w w' := by
  obtain ⟨i0, hi, hz0, hz1, hz2⟩ := info_parts info_hash
  go_enter Tryd.func10, Tryd.ntmps10
  go_wp2
  go_loopw [1, 2] (fun x z wr => ∃ k : Nat, z = .int .i64 (k : Int) ∧ k ≤ 64 ∧ OwnH wr w.heap.size x (emptyL k) ∧ Below w.heap.size w wr) (fun _ z _ => 64 - (intOf z).toNat)
  case atStart => exact ⟨0, rfl, by decide, OwnH.nil, Below.refl _ _⟩
  case round =>
    obtain ⟨k, rfl, hk, ho, hb⟩ := hrel
    have HO := Lib.hid ho
    have HB := Lib.hid hb
    clear ho hb
    obtain ⟨A1, n1, c1, rfl⟩ := HO.out.sh.shape
    by_cases hlt : k < 64
    · go_wp2_with fail
      refine (refLeaf_any k hlt _ [] wr (Sl.nil none 0) (by decide)).mono ?_
      rintro e w1 ⟨rfl, hb1⟩
      have HE := Lib.hid (emptyL_succ k)
      have H32 := Lib.hid (leafN_length k [])
      rw [← hcells_arr]
      have HO1 := Lib.hid (HO.out.below hb1)
      have HB1 := Lib.hid (HB.out.trans (hb1.mono HB.out.size))
      clear hb1
      have hC32 : (hcells (leafN k [])).length = 32 := by rw [hcells_length, H32.out]
      generalize hCC : hcells (leafN k []) = C at hC32
      have HC := Lib.hid hCC
      clear hCC
      have HBS := Lib.hid (built_one C hC32)
      have HO4 := Lib.hid (HO1.out.alloc (.cells C.toArray 39))
      have hb4 : Below w.heap.size w (w1.alloc (.cells C.toArray 39)) := HB1.out.alloc HB1.out.size _
      have HS4 := Lib.hid (show Sh (w1.alloc (.cells C.toArray 39)) (.slice (some ⟨w1.heap.size, 0, none⟩) 1 1) [leafN k []] by rw [← HC.out]; exact Sh.one w1 H32.out)
      have hlen : (emptyL k).length + [leafN k []].length ≤ 1000000 := by rw [emptyL_length]; simp; omega
      clear hC32
      go_wp2_with (first | (refine Great.wpList_buildSliceTo rfl 27 39 1 _ rfl w1.heap.size rfl _ rfl Tryd.underlying27 C.toArray ?hbs ?_; case hbs => exact Eq.trans (by kernel_rfl) HBS.out) | (at_builtin; refine wpList_append_hs _ rfl _ _ 27 rfl w.heap.size i0 Tryd.underlying27 hi hz0 hz1 hz2 _ (emptyL k) rfl HO4.out _ [leafN k []] rfl HS4.out hlen hb4.size ?_))
      intro v5 w5 ho5 hb5
      have HO5 := Lib.hid (show OwnH w5 w.heap.size v5 (emptyL (k + 1)) by rw [HE.out]; exact ho5)
      have HB5 := Lib.hid (hb4.trans hb5)
      clear ho5 hb5 hb4 hlen
      go_wp2
      go_roundw
      case rel => exact ⟨k + 1, by go_num, by omega, HO5.out, HB5.out⟩
      case measure => simp [intOf]; omega
    · obtain rfl : k = 64 := by omega
      go_wp2
      go_ret
      exact ⟨_, rfl, HO.out, HB.out⟩

theorem wpList_load_row_g {P : Program} {w : World} {ops : Array Oper} {rest : List Oper} {o : Oper} {a : Act} {Q : Exit → Act → World → Prop} (hw : Region.wanted o (yielded ops a.tmps) = true) (ty : TypeId) (x : Operand) (ho : o.op = .load ty x)
    (g : Nat) (hx : a.eval x = .pointer (some ⟨g, 0, none⟩)) (t : TypeId) (cs : Array Value) (fr : Nat × Nat) (d : TypeDesc) (hg : w.heap[g]? = some (.cells cs t fr))
    (hu : P.underlying ty = some d) (hd : (match d with | .struct _ | .array _ _ => true | _ => false) = true) (hi : (P.info? ty).map (·.size) = some cs.size)
    (h : wpList P ops Q rest (a.put o.dst (.agg cs)) w) : wpList P ops Q (o :: rest) a w :=
  wpList_step fun K hK => by rw [if_pos hw]; exact wp_load_row ty x ho g hx t cs fr d hg hu hd hi (hK _ _ h)
/-- A leaf in a row of leaves. -/
theorem OwnH.leafAt {w : World} {base gw : Nat} {n c : Nat} {K : Nat → List UInt8} (h : OwnH w base (.slice (some ⟨gw, 0, none⟩) n c) (leavesOf K)) (k : Nat) (hk : k < 64) : w.rangeAt gw (k * 32) (hcells (K (64 + k))) := by
  obtain ⟨b, o, e, hr⟩ := h.sh.at_ k (by rw [leavesOf_length]; exact hk)
  injection e with e
  injection e with eb eo _
  subst eb eo
  rwa [leavesOf_get, Nat.zero_add] at hr
theorem leaf_set {M K : Nat → List UInt8} {q : Nat} {x : List UInt8} (h : leavesOf M = (leavesOf K).set q x) (hq : q < 64) : M (64 + q) = x := by
  have := List.getElem_of_eq h (i := q) (by rw [leavesOf_length]; exact hq)
  rwa [leavesOf_get, List.getElem_set_self] at this
/-- All blocks but these two are as they were. -/
structure Kp (g gl : Nat) (w w' : World) : Prop where
  os : w'.os = w.os
  tape : w'.tape = w.tape
  output : w'.output = w.output
  size : w.heap.size ≤ w'.heap.size
  block : ∀ k, k < w.heap.size → k ≠ g → k ≠ gl → w'.heap[k]? = w.heap[k]?
theorem Kp.refl (g gl : Nat) (w : World) : Kp g gl w w := ⟨rfl, rfl, rfl, Nat.le_refl _, fun _ _ _ _ => rfl⟩
theorem Kp.trans {g gl : Nat} {a b c : World} (h : Kp g gl a b) (k : Kp g gl b c) : Kp g gl a c :=
  ⟨k.os.trans h.os, k.tape.trans h.tape, k.output.trans h.output, Nat.le_trans h.size k.size, fun i hi h1 h2 => (k.block i (Nat.lt_of_lt_of_le hi h.size) h1 h2).trans (h.block i hi h1 h2)⟩
theorem Kp.of_below {g gl : Nat} {w w' : World} (h : Below w.heap.size w w') : Kp g gl w w' := ⟨h.os, h.tape, h.output, h.size, fun k hk _ _ => h.block k hk⟩
theorem Kp.of_grown1 {g gl : Nat} {w w' : World} (h : w.grownBy w' (some g)) : Kp g gl w w' := ⟨h.os, h.tape, h.output, h.size, fun k hk h1 _ => h.block k hk (fun e => h1 (by injection e))⟩
theorem Kp.of_grown2 {g gl : Nat} {w w' : World} (h : w.grownBy w' (some gl)) : Kp g gl w w' := ⟨h.os, h.tape, h.output, h.size, fun k hk _ h1 => h.block k hk (fun e => h1 (by injection e))⟩
theorem Kp.below {g gl B : Nat} {a w w' : World} (h : Below B a w) (k : Kp g gl w w') (hB : B ≤ w.heap.size) (h1 : B ≤ g) (h2 : B ≤ gl) : Below B a w' :=
  h.trans ⟨k.os, k.tape, k.output, k.size, fun i hi => k.block i (by omega) (by omega) (by omega)⟩
theorem Kp.tr {g gl k : Nat} {w w' : World} {H : Nat → List UInt8} (h : Tr w k H) (q : Kp g gl w w') (h1 : k ≠ g) (h2 : k ≠ gl) : Tr w' k H := ⟨h.len, (q.block k h.lt h1 h2).trans h.row⟩
theorem Kp.own {g gl base : Nat} {w w' : World} {v : Value} {L : List (List UInt8)} (h : OwnH w base v L) (q : Kp g gl w w') (h1 : ∀ k, v.ownBlock = some k → k ≠ g ∧ k ≠ gl) : OwnH w' base v L :=
  h.keep fun k hk => q.block k (h.lt k hk).2 (h1 k hk).1 (h1 k hk).2

/-- What set leaves. -/
def SetLaw (g gl base c : Nat) (w : World) (e : Ending) (w' : World) : Prop :=
  ∃ K, e = .returned (.bool true) ∧ Tr w' g K ∧ Good K ∧ OwnH w' base (.slice (some ⟨gl, 0, none⟩) 64 c) (leavesOf K) ∧ Kp g gl w w'
/-- The round's state. -/
def SetRel (g gl base c : Nat) (w wr : World) : Prop :=
  ∃ K, Tr wr g K ∧ Good K ∧ OwnH wr base (.slice (some ⟨gl, 0, none⟩) 64 c) (leavesOf K) ∧ Kp g gl w wr

set_option maxHeartbeats 8000000 in
theorem lawSet_any (W0 w : World) (g gl base c : Nat) (KT0 : Nat → List UInt8) (v : Value) (L : List MSt) (hs : Mts W0 v L) (hfew : Few L) (hW : Below W0.heap.size W0 w) (hg1 : W0.heap.size ≤ g) (hg2 : W0.heap.size ≤ gl) (hne : g ≠ gl)
    (ht0 : Tr w g KT0) (hgood0 : Good KT0) (ho0 : OwnH w base (.slice (some ⟨gl, 0, none⟩) 64 c) (leavesOf KT0)) (hg : Gl W0) :
    Calls Tryd.prog 11 #[.pointer (some ⟨g, 0, none⟩), .slice (some ⟨gl, 0, none⟩) 64 c, v] w (SetLaw g gl base c w) := by
  have hfo : Tryd.prog.follows .mixedOrders = true := by kernel_rfl
  obtain ⟨j0, hj, hj0, hj1, hj2⟩ := info_parts info_u8
  have HS := Lib.hid hs
  have HFew := Lib.hid hfew
  have hL40 : L.length ≤ 40 := hfew.1
  have HW := Lib.hid hW
  have HREL := Lib.hid (show SetRel g gl base c w w from ⟨KT0, ht0, hgood0, ho0, Kp.refl _ _ _⟩)
  obtain ⟨A, cc, rfl, hc, ha⟩ := hs
  clear ha hfew hW ht0 hgood0 ho0
  go_enter Tryd.func11, Tryd.ntmps11
  go_wp2
  go_loopw [7] (fun z wr => ∃ i : Nat, z = .int .i64 (i : Int) ∧ i ≤ L.length ∧ SetRel g gl base c w wr) (fun z _ => L.length - (intOf z).toNat)
  case atStart => exact ⟨0, rfl, Nat.zero_le _, HREL.out⟩
  case round =>
    clear HREL
    obtain ⟨i, rfl, hi, KT, ht, hgood, ho, hkp⟩ := hrel
    have HT := Lib.hid ht
    have HGK := Lib.hid hgood
    have HO := Lib.hid ho
    have HKP := Lib.hid hkp
    have HB := Lib.hid (Kp.below HW.out hkp HW.out.size hg1 hg2)
    clear ht hgood ho hkp
    by_cases hlt : i < L.length
    · obtain ⟨b, o, rfl, hst, hb0⟩ : ∃ b o, A = some ⟨b, o, none⟩ ∧ MAt W0 b (o + i * 2) L[i] ∧ b < W0.heap.size := by
        obtain ⟨A', c', e', _, ha⟩ := HS.out
        injection e' with e1 e2 e3
        obtain ⟨b, o, e4, hx⟩ := ha (by omega)
        exact ⟨b, o, e1.trans e4, hx i hlt, World.block_lt_of_cell? W0 _ (hx i hlt).1⟩
      have HST := Lib.hid hst
      have h9000 := HFew.out.2 _ (List.getElem_mem hlt)
      obtain ⟨n, hn⟩ : ∃ n, L[i].n = n := ⟨_, rfl⟩
      obtain ⟨bv', hbv⟩ : ∃ x, L[i].bv = x := ⟨_, rfl⟩
      obtain ⟨bs, hbs⟩ : ∃ x, L[i].b = x := ⟨_, rfl⟩
      have HX := Lib.hid (show ∀ X, Below W0.heap.size W0 X → X.cell? ⟨b, o + i * 2, none⟩ = some (.int .i64 n) ∧ X.cell? ⟨b, o + i * 2 + 1, none⟩ = some bv' ∧ Sl X bv' bs from fun X hX => by
        obtain ⟨k0, k1, k2, _⟩ := HST.out.below hX
        rw [hn] at k0
        rw [hbv] at k1 k2
        rw [hbs] at k2
        exact ⟨k0, k1, k2⟩)
      have hn1 := HST.out.2.2.2.1
      have hn2 := HST.out.2.2.2.2
      rw [hn] at hn1 hn2
      rw [hbs] at h9000
      have hi1 : (i : Int) < (L.length : Int) := by omega
      have HNB := Lib.hid (show some b ≠ some g by intro e; injection e with e; omega)
      have HNL := Lib.hid (show some b ≠ some gl by intro e; injection e with e; omega)
      clear hst hn hbv hbs
      obtain ⟨k0, k1, k2⟩ := HX.out wr HB.out
      obtain ⟨A2, n2, c2, rfl⟩ := k2.shape
      have hlb : ([] : List UInt8).length + bs.length ≤ 1000000000 := by simp; omega
      have hsb := k2
      go_upto_region 5 with (at_builtin; refine wpList_append_bytes _ rfl _ _ 45 rfl wr.heap.size 5 j0 Tryd.underlying45 hj hj0 hj1 hj2 (.slice none 0 0) [] rfl Own.nil _ bs rfl hsb hlb (Nat.le_refl _) ?_)
      intro v4 w4 ho4 hb4
      have HO4 := Lib.hid (show Own w4 wr.heap.size 5 v4 bs by simpa using ho4)
      obtain ⟨A4, n4, c4, rfl⟩ := ho4.shape
      have HB4 := Lib.hid hb4
      clear ho4 hb4 k0 k1 k2 hsb hlb
      have HK4 := Lib.hid (HKP.out.trans (Kp.of_below HB4.out))
      have HBW4 := Lib.hid (Kp.below HW.out HK4.out HW.out.size hg1 hg2)
      have HT4 := Lib.hid (HT.out.past HB4.out)
      have HLE4 := Lib.hid (HO.out.below HB4.out)
      have HGL := Lib.hid (show ∀ L', (Value.slice (some ⟨gl, 0, none⟩) 64 L').ownBlock ≠ some g from fun L' e => hne (by injection e with e; exact e.symm))
      by_cases hin : 0 ≤ n ∧ n < 64
      · obtain ⟨q, rfl⟩ : ∃ q : Nat, n = (q : Int) := ⟨n.toNat, by omega⟩
        have hq64 : q < 64 := by omega
        have BQ := Lib.hid (show (q : Int) < 64 by omega)
        obtain ⟨k0, k1, k2⟩ := HX.out w4 HBW4.out
        clear k1 k2
        go_wp2_with fail
        refine (set_tree w4 g KT HT4.out HGK.out q hq64 _ bs HO4.out.sl (by omega) (hg.below HBW4.out)).mono ?_
        rintro e w5 ⟨M, rfl, ht5, hgood5, hlv5, hgr5⟩
        have HSG := Lib.hid ((HO4.out.sg (g := g) (.inr HT.out.lt)).grown hgr5)
        have HT5 := Lib.hid ht5
        have HGM := Lib.hid hgood5
        have HLM := Lib.hid hlv5
        have HLQ := Lib.hid (leaf_set hlv5 hq64)
        have HO5 := Lib.hid (HLE4.out.grown hgr5 (HGL.out c))
        have HK5 := Lib.hid (HK4.out.trans (Kp.of_grown1 hgr5))
        have HBW5 := Lib.hid (Kp.below HW.out HK5.out HW.out.size hg1 hg2)
        clear k0 ht5 hgood5 hlv5 hgr5 HT4 HLE4 HBW4
        obtain ⟨k0, k1, k2⟩ := HX.out w5 HBW5.out
        clear k1 k2
        go_wp2_with fail
        refine (leaf_any q hq64 _ bs w5 HSG.out.sl (by omega) (hg.below HBW5.out)).mono ?_
        rintro e w6 ⟨rfl, hb6⟩
        have h32 := leafN_length q bs
        obtain ⟨hil, hi, h1, hs1⟩ := hc_facts h32
        have HEQ := Lib.hid (fun w => hash_self (leafN q bs) h32 w)
        rw [← hcells_arr] at HEQ ⊢
        generalize hCC : hcells (leafN q bs) = C at hil hi h1 hs1 HEQ ⊢
        have HCC := Lib.hid hCC
        obtain ⟨R, hR⟩ : ∃ R, R = C.toArray := ⟨_, rfl⟩
        have hi1 := hi
        have hone := h1
        have hsC := hs1
        rw [← hR] at hi h1 hs1 ⊢
        have HR := Lib.hid hR
        clear hR hCC k0 h32
        have hN := Blk.new w6 39 (rowB (List.replicate 32 0))
        have hb9 : Below w6.heap.size w6 (w6.alloc (.cells (rowB (List.replicate 32 0)) 39)) := (Below.refl _ _).alloc (Nat.le_refl _) _
        have hZ : (rowB (List.replicate 32 0)).size = 32 := by rw [rowB_size, List.length_replicate]
        have hth : (w6.alloc (.cells (rowB (List.replicate 32 0)) 39)).there w6.heap.size 0 R.size := by rw [hs1, ← hZ]; exact hN.there
        have hgr := grown_setCells w6.heap.size R.toList 0 (w6.alloc (.cells (rowB (List.replicate 32 0)) 39))
        have HBE := Lib.hid (Below.only hb9 hgr (Nat.le_refl _) hb9.size)
        have HCELL := Lib.hid (hN.setRow (ds := R) (by rw [hs1, hZ]))
        clear hN hb9 hgr hZ
        go_upto_region 7 with (refine wpList_store_mid rfl 39 _ _ rfl w6.heap.size 0 R rfl rfl hth hi h1 ?_)
        change Code.wp _ _ _ _ ((w6.alloc (.cells (rowB (List.replicate 32 0)) 39)).setCells w6.heap.size 0 R.toList)
        generalize (w6.alloc (.cells (rowB (List.replicate 32 0)) 39)).setCells w6.heap.size 0 R.toList = w7 at HBE HCELL ⊢
        clear hth
        rw [HR.out] at HCELL
        have HB57 := Lib.hid (hb6.trans (HBE.out.mono hb6.size))
        have HCR := Lib.hid (show w7.drew.rangeAt w6.heap.size 0 C from fun j x hx => by rw [Nat.zero_add, HCELL.out.drew.cell j, List.getElem?_toArray]; exact hx)
        have hgh0 : w5.heap.size ≤ w6.heap.size := hb6.size
        have HGH := Lib.hid (show gl ≠ w6.heap.size by have := (HO5.out.lt gl rfl).2; omega)
        have HGHG := Lib.hid (show g ≠ w6.heap.size by have := HT5.out.lt; omega)
        generalize w6.heap.size = gh at HCR HGH HGHG ⊢
        have HK7 := Lib.hid (show Kp g gl w w7.drew from HK5.out.trans (Kp.of_below HB57.out.drew))
        have HBW7 := Lib.hid (Kp.below HW.out HK7.out HW.out.size hg1 hg2)
        have HT7 := Lib.hid (show Tr w7.drew g M from (HT5.out.past HB57.out).drew)
        have HO7 := Lib.hid (show OwnH w7.drew base (.slice (some ⟨gl, 0, none⟩) 64 c) (leavesOf KT) from (HO5.out.below HB57.out).drew)
        obtain ⟨k0, k1, k2⟩ := HX.out w7.drew HBW7.out
        have K0 := Lib.hid k0
        have K1 := Lib.hid k1
        have HSB := Lib.hid k2
        obtain ⟨s, hs⟩ : ∃ s : ByteArray, (⟨bs.toArray⟩ : ByteArray) = s := ⟨_, rfl⟩
        have hcv1 := ((HSG.out.below HB57.out).sl.drew).conv (P := Tryd.prog) (src := 45) (dst := 9) (e := 5) Tryd.underlying45 Tryd.underlying5 Tryd.underlying9
        have hcv2 := k2.conv (P := Tryd.prog) (src := 45) (dst := 9) (e := 5) Tryd.underlying45 Tryd.underlying5 Tryd.underlying9
        rw [hs] at hcv1 hcv2
        have HCV1 := Lib.hid hcv1
        have HCV2 := Lib.hid hcv2
        clear k0 k1 k2 hcv1 hcv2 hs HBE HCELL hb6 hi h1 hs1 HSG HO5 HT5 HB57 hgh0
        go_wp2_with fail
        refine wp_region_held_drew (S := fun X => X = w7.drew) hfo rfl (fun hS0 => ?_)
        generalize w7.drew = w8 at *
        refine' wpAnyH_take (i := 0) (oi := ⟨some 42, _, _, _, _, _⟩) (v := _) rfl (by kernel_rfl) (by kernel_rfl) (by kernel_rfl) (fun _ _ _ h => h) (Or.inl ⟨by rfl, ?y0⟩) hS0 ?r0
        case y0 => (intro w' hSw; subst hSw; have d1 := K1.out; go_simp; try rfl)
        try simp only [Act.put, List.setIfInBounds_toArray, List.set_cons_zero, List.set_cons_succ]
        refine' wpAnyH_take (i := 2) (oi := ⟨some 44, _, _, _, _, _⟩) (v := _) rfl (by kernel_rfl) (by kernel_rfl) (by kernel_rfl) (fun _ _ _ h => h) (Or.inl ⟨by rfl, ?y2⟩) hS0 ?r2
        case y2 => (intro w' hSw; subst hSw; have d1 := K1.out; go_simp; try rfl)
        try simp only [Act.put, List.setIfInBounds_toArray, List.set_cons_zero, List.set_cons_succ]
        refine' wpAnyH_take (i := 3) (oi := ⟨some 45, _, _, _, _, _⟩) (v := _) rfl (by kernel_rfl) (by kernel_rfl) (by kernel_rfl) (fun _ _ _ h => h) (Or.inl ⟨by rfl, ?y3⟩) hS0 ?r3
        case y3 => (intro w' hSw; subst hSw; have d1 := K1.out; go_simp; try rfl)
        try simp only [Act.put, List.setIfInBounds_toArray, List.set_cons_zero, List.set_cons_succ]
        refine' wpAnyH_take (i := 4) (oi := ⟨some 46, _, _, _, _, _⟩) (v := _) rfl (by kernel_rfl) (by kernel_rfl) (by kernel_rfl) (fun _ _ _ h => h) (Or.inl ⟨by rfl, ?y4⟩) hS0 ?r4
        case y4 => (intro w' hSw; subst hSw; have d1 := K1.out; go_simp; try rfl)
        try simp only [Act.put, List.setIfInBounds_toArray, List.set_cons_zero, List.set_cons_succ]
        refine' wpAnyH_take (i := 5) (oi := ⟨some 47, _, _, _, _, _⟩) (v := _) rfl (by kernel_rfl) (by kernel_rfl) (by kernel_rfl) (fun _ _ _ h => h) (Or.inl ⟨by rfl, ?y5⟩) hS0 ?r5
        case y5 => (intro w' hSw; subst hSw; have d1 := K1.out; go_simp; try rfl)
        try simp only [Act.put, List.setIfInBounds_toArray, List.set_cons_zero, List.set_cons_succ]
        refine' wpAnyH_take (i := 6) (oi := ⟨some 48, _, _, _, _, _⟩) (v := _) rfl (by kernel_rfl) (by kernel_rfl) (by kernel_rfl) (fun _ _ _ h => h) (Or.inl ⟨by rfl, ?y6⟩) hS0 ?r6
        case y6 => (intro w' hSw; subst hSw; have d1 := K1.out; go_simp; try rfl)
        try simp only [Act.put, List.setIfInBounds_toArray, List.set_cons_zero, List.set_cons_succ]
        refine' wpAnyH_take (i := 1) (oi := ⟨some 43, _, _, _, _, _⟩) (v := _) rfl (by kernel_rfl) (by kernel_rfl) (by kernel_rfl) (fun _ _ _ h => h) (Or.inl ⟨by rfl, ?y1⟩) hS0 ?r1
        case y1 => (intro w' hSw; subst hSw; have c1 := HCV1.out; go_simp; try rfl)
        try simp only [Act.put, List.setIfInBounds_toArray, List.set_cons_zero, List.set_cons_succ]
        refine' wpAnyH_take (i := 7) (oi := ⟨some 49, _, _, _, _, _⟩) (v := _) rfl (by kernel_rfl) (by kernel_rfl) (by kernel_rfl) (fun _ _ _ h => h) (Or.inl ⟨by rfl, ?y7⟩) hS0 ?r7
        case y7 => (intro w' hSw; subst hSw; have c1 := HCV2.out; go_simp; try rfl)
        try simp only [Act.put, List.setIfInBounds_toArray, List.set_cons_zero, List.set_cons_succ]
        refine' wpAnyH_take (i := 8) (oi := ⟨some 50, _, _, _, _, _⟩) (v := _) rfl (by kernel_rfl) (by kernel_rfl) (by kernel_rfl) (fun _ _ _ h => h) (Or.inl ⟨by rfl, ?y8⟩) hS0 ?r8
        case y8 => (intro w' hSw; subst hSw; go_simp; try rfl)
        try simp only [Act.put, List.setIfInBounds_toArray, List.set_cons_zero, List.set_cons_succ]
        refine wpAnyH_done (by kernel_rfl) ?_ _
        clear HCV1 HCV2
        have d0 := K0.out
        go_upto_region 12 with (fail)
        clear d0
        replace K0 := Lib.hid (show w8.drew.cell? ⟨b, o + i * 2, none⟩ = some (.int .i64 (q : Int)) from K0.out)
        replace K1 := Lib.hid (show w8.drew.cell? ⟨b, o + i * 2 + 1, none⟩ = some (.slice A2 n2 c2) from K1.out)
        replace HSB := Lib.hid (show Sl w8.drew (.slice A2 n2 c2) bs from HSB.out.drew)
        have HO8 := Lib.hid (show OwnH w8.drew base (.slice (some ⟨gl, 0, none⟩) 64 c) (leavesOf KT) from HO7.out.drew)
        have HT8 := Lib.hid (show Tr w8.drew g M from HT7.out.drew)
        have HK8 := Lib.hid (show Kp g gl w w8.drew from HK7.out.trans (Kp.of_below (Below.refl _ _).drew))
        have HCR8 := Lib.hid (show w8.drew.rangeAt gh 0 C from HCR.out)
        clear HO7 HT7 HK7 HBW7 HCR
        refine wp_region_held_drew (S := fun X => World.grownBy w8.drew X (some gl)) hfo (grown_refl _ _) (fun hS0 => ?_)
        generalize w8.drew = Y0 at *
        refine' wpAnyH_take (i := 0) (oi := ⟨some 78, _, _, _, _, _⟩) (v := _) rfl (by kernel_rfl) (by kernel_rfl) (by kernel_rfl) (fun _ _ _ h => h) (Or.inl ⟨by rfl, ?y0Q⟩) hS0 ?r0Q
        case y0Q => (intro w' hSw; have d0 := hSw.cell K0.out HNL.out; have d1 := hSw.cell K1.out HNL.out; go_simp; try rfl)
        try simp only [Act.put, List.setIfInBounds_toArray, List.set_cons_zero, List.set_cons_succ]
        refine' wpAnyH_take (i := 1) (oi := ⟨some 79, _, _, _, _, _⟩) (v := _) rfl (by kernel_rfl) (by kernel_rfl) (by kernel_rfl) (fun _ _ _ h => h) (Or.inl ⟨by rfl, ?y1Q⟩) hS0 ?r1Q
        case y1Q => (intro w' hSw; have d0 := hSw.cell K0.out HNL.out; have d1 := hSw.cell K1.out HNL.out; go_simp; try rfl)
        try simp only [Act.put, List.setIfInBounds_toArray, List.set_cons_zero, List.set_cons_succ]
        refine' wpAnyH_take (i := 2) (oi := ⟨some 80, _, _, _, _, _⟩) (v := _) rfl (by kernel_rfl) (by kernel_rfl) (by kernel_rfl) (fun _ _ _ h => h) (Or.inl ⟨by rfl, ?y2Q⟩) hS0 ?r2Q
        case y2Q => (intro w' hSw; have d0 := hSw.cell K0.out HNL.out; have d1 := hSw.cell K1.out HNL.out; go_simp; try rfl)
        try simp only [Act.put, List.setIfInBounds_toArray, List.set_cons_zero, List.set_cons_succ]
        refine' wpAnyH_take (i := 3) (oi := ⟨some 81, _, _, _, _, _⟩) (v := _) rfl (by kernel_rfl) (by kernel_rfl) (by kernel_rfl) (fun _ _ _ h => h) (Or.inl ⟨by rfl, ?y3Q⟩) hS0 ?r3Q
        case y3Q => (intro w' hSw; have d0 := hSw.cell K0.out HNL.out; have d1 := hSw.cell K1.out HNL.out; go_simp; try rfl)
        try simp only [Act.put, List.setIfInBounds_toArray, List.set_cons_zero, List.set_cons_succ]
        refine' wpAnyH_take (i := 4) (oi := ⟨some 82, _, _, _, _, _⟩) (v := _) rfl (by kernel_rfl) (by kernel_rfl) (by kernel_rfl) (fun _ _ _ h => h) (Or.inl ⟨by rfl, ?y4Q⟩) hS0 ?r4Q
        case y4Q => (intro w' hSw; have d0 := hSw.cell K0.out HNL.out; have d1 := hSw.cell K1.out HNL.out; go_simp; try rfl)
        try simp only [Act.put, List.setIfInBounds_toArray, List.set_cons_zero, List.set_cons_succ]
        refine' wpAnyH_take (i := 5) (oi := ⟨some 83, _, _, _, _, _⟩) (v := _) rfl (by kernel_rfl) (by kernel_rfl) (by kernel_rfl) (fun _ _ _ h => h) (Or.inl ⟨by rfl, ?y5Q⟩) hS0 ?r5Q
        case y5Q => (intro w' hSw; have d0 := hSw.cell K0.out HNL.out; have d1 := hSw.cell K1.out HNL.out; go_simp; try rfl)
        try simp only [Act.put, List.setIfInBounds_toArray, List.set_cons_zero, List.set_cons_succ]
        refine' wpAnyH_take (i := 6) (oi := ⟨some 84, _, _, _, _, _⟩) (v := _) rfl (by kernel_rfl) (by kernel_rfl) (by kernel_rfl) (fun _ _ _ h => h) (Or.inl ⟨by rfl, ?y6Q⟩) hS0 ?r6Q
        case y6Q => (intro w' hSw; have d0 := hSw.cell K0.out HNL.out; have d1 := hSw.cell K1.out HNL.out; go_simp; try rfl)
        try simp only [Act.put, List.setIfInBounds_toArray, List.set_cons_zero, List.set_cons_succ]
        refine' wpAnyH_take (i := 7) (oi := ⟨some 85, _, _, _, _, _⟩) (v := _) rfl (by kernel_rfl) (by kernel_rfl) (by kernel_rfl) (fun _ _ _ h => h) (Or.inl ⟨by rfl, ?y7Q⟩) hS0 ?r7Q
        case y7Q => (intro w' hSw; have d0 := hSw.cell K0.out HNL.out; have d1 := hSw.cell K1.out HNL.out; go_simp; try rfl)
        try simp only [Act.put, List.setIfInBounds_toArray, List.set_cons_zero, List.set_cons_succ]
        refine' wpAnyH_take (i := 8) (oi := ⟨some 86, _, _, _, _, _⟩) (v := _) rfl (by kernel_rfl) (by kernel_rfl) (by kernel_rfl) (fun _ _ _ h => h) (Or.inl ⟨by rfl, ?y8Q⟩) hS0 ?r8Q
        case y8Q => (intro w' hSw; have d0 := hSw.cell K0.out HNL.out; have d1 := hSw.cell K1.out HNL.out; go_simp; try rfl)
        try simp only [Act.put, List.setIfInBounds_toArray, List.set_cons_zero, List.set_cons_succ]
        refine' wpAnyH_take (i := 9) (oi := ⟨some 87, _, _, _, _, _⟩) (v := _) rfl (by kernel_rfl) (by kernel_rfl) (by kernel_rfl) (fun _ _ _ h => h) (Or.inl ⟨by rfl, ?y9Q⟩) hS0 ?r9Q
        case y9Q => (intro w' hSw; have d0 := hSw.cell K0.out HNL.out; have d1 := hSw.cell K1.out HNL.out; go_simp; try rfl)
        try simp only [Act.put, List.setIfInBounds_toArray, List.set_cons_zero, List.set_cons_succ]
        refine' wpAnyH_take (i := 10) (oi := ⟨some 88, _, _, _, _, _⟩) (v := _) rfl (by kernel_rfl) (by kernel_rfl) (by kernel_rfl) (fun _ _ _ h => h) (Or.inl ⟨by rfl, ?y10Q⟩) hS0 ?r10Q
        case y10Q => (intro w' hSw; have d0 := hSw.cell K0.out HNL.out; have d1 := hSw.cell K1.out HNL.out; go_simp; try rfl)
        try simp only [Act.put, List.setIfInBounds_toArray, List.set_cons_zero, List.set_cons_succ]
        refine' wpAnyH_take (i := 11) (oi := ⟨some 89, _, _, _, _, _⟩) (v := _) rfl (by kernel_rfl) (by kernel_rfl) (by kernel_rfl) (fun _ _ _ h => h) (Or.inl ⟨by rfl, ?y11Q⟩) hS0 ?r11Q
        case y11Q => (intro w' hSw; have d0 := hSw.cell K0.out HNL.out; have d1 := hSw.cell K1.out HNL.out; go_simp; try rfl)
        try simp only [Act.put, List.setIfInBounds_toArray, List.set_cons_zero, List.set_cons_succ]
        refine' wpAnyH_take (i := 12) (oi := ⟨some 90, _, _, _, _, _⟩) (v := _) rfl (by kernel_rfl) (by kernel_rfl) (by kernel_rfl) (fun _ _ _ h => h) (Or.inl ⟨by rfl, ?y12Q⟩) hS0 ?r12Q
        case y12Q => (intro w' hSw; have d0 := hSw.cell K0.out HNL.out; have d1 := hSw.cell K1.out HNL.out; go_simp; try rfl)
        try simp only [Act.put, List.setIfInBounds_toArray, List.set_cons_zero, List.set_cons_succ]
        refine' wpAnyH_take (i := 13) (oi := ⟨some 91, _, _, _, _, _⟩) (v := _) rfl (by kernel_rfl) (by kernel_rfl) (by kernel_rfl) (fun _ _ _ h => h) (Or.inl ⟨by rfl, ?y13Q⟩) hS0 ?r13Q
        case y13Q => (intro w' hSw; have d0 := hSw.cell K0.out HNL.out; have d1 := hSw.cell K1.out HNL.out; go_simp; try rfl)
        try simp only [Act.put, List.setIfInBounds_toArray, List.set_cons_zero, List.set_cons_succ]
        refine' wpAnyH_take (i := 14) (oi := ⟨some 92, _, _, _, _, _⟩) (v := _) rfl (by kernel_rfl) (by kernel_rfl) (by kernel_rfl) (fun _ _ _ h => h) (Or.inl ⟨by rfl, ?y14Q⟩) hS0 ?r14Q
        case y14Q => (intro w' hSw; have d0 := hSw.cell K0.out HNL.out; have d1 := hSw.cell K1.out HNL.out; go_simp; try rfl)
        try simp only [Act.put, List.setIfInBounds_toArray, List.set_cons_zero, List.set_cons_succ]
        refine' wpAnyH_take (i := 15) (oi := ⟨some 93, _, _, _, _, _⟩) (v := _) rfl (by kernel_rfl) (by kernel_rfl) (by kernel_rfl) (fun _ _ _ h => h) (Or.inl ⟨by rfl, ?y15Q⟩) hS0 ?r15Q
        case y15Q => (intro w' hSw; have d0 := hSw.cell K0.out HNL.out; have d1 := hSw.cell K1.out HNL.out; go_simp; try rfl)
        try simp only [Act.put, List.setIfInBounds_toArray, List.set_cons_zero, List.set_cons_succ]
        refine held_one (i := 16) (by kernel_rfl) rfl (fun KQ hK => ?_)
        go_simp
        refine (refLeaf_any q hq64 _ bs Y0 HSB.out (by omega)).mono ?_
        rintro e Y1 ⟨rfl, hb1⟩
        rw [← hcells_arr, HCC.out]
        have hS1 := hS0.trans (grown_of_below hb1 (some gl))
        refine hK.out _ _ hS1 (fun _ => ?_)
        clear hK KQ
        try simp only [Act.put, List.setIfInBounds_toArray, List.set_cons_zero, List.set_cons_succ]
        refine' wpAnyH_take (i := 17) (oi := ⟨some 95, _, _, _, _, _⟩) (v := _) rfl (by kernel_rfl) (by kernel_rfl) (by kernel_rfl) (fun _ _ _ h => h) (Or.inl ⟨by rfl, ?y17Q⟩) hS1 ?r17Q
        case y17Q => (intro w' hSw; go_simp; try rfl)
        try simp only [Act.put, List.setIfInBounds_toArray, List.set_cons_zero, List.set_cons_succ]
        have HO1 := Lib.hid (HO8.out.below hb1)
        obtain ⟨gx, hgx, hcx, _, _, hth⟩ := HO1.out.block (by rw [leavesOf_length]; decide)
        injection hgx with hgx
        injection hgx with hgx _ _
        subst hgx
        have hth9 : Y1.there gl (q * 32) C.toArray.size := by rw [hsC]; exact hth q (by rw [leavesOf_length]; exact hq64)
        clear hcx
        refine held_one (i := 18) (by kernel_rfl) rfl (fun KQ hK => ?_)
        rw [if_pos (by rfl)]
        refine wp_store_mid 39 _ _ rfl gl (q * 32) C.toArray rfl rfl hth9 hi1 hone ?_
        have hgrS := grown_setCells gl C.toArray.toList (q * 32) Y1
        have hS2 := hS1.trans hgrS
        refine hK.out _ _ hS2 (fun _ => ?_)
        clear hK KQ
        try simp only [Act.put, List.setIfInBounds_toArray, List.set_cons_zero, List.set_cons_succ]
        refine wpAnyH_done (by kernel_rfl) ?_ _
        have hset := HO1.out.set rfl q (by rw [leavesOf_length]; exact hq64) (leafN_length q bs)
        rw [HCC.out, ← HLM.out] at hset
        have HO9 := Lib.hid (show OwnH (Y1.setCells gl (q * 32) C.toArray.toList).drew base (.slice (some ⟨gl, 0, none⟩) 64 c) (leavesOf M) from hset.drew)
        have HT9 := Lib.hid (show Tr (Y1.setCells gl (q * 32) C.toArray.toList).drew g M from ((HT8.out.past hb1).grown hgrS hne).drew)
        have HK9 := Lib.hid (show Kp g gl w (Y1.setCells gl (q * 32) C.toArray.toList).drew from ((HK8.out.trans (Kp.of_below hb1)).trans (Kp.of_grown2 hgrS)).trans (Kp.of_below (Below.refl _ _).drew))
        have HBW9 := Lib.hid (Kp.below HW.out HK9.out HW.out.size hg1 hg2)
        have HCR := Lib.hid (show (Y1.setCells gl (q * 32) C.toArray.toList).drew.rangeAt gh 0 C from fun j x hx => hgrS.cell ((hb1.cell (World.block_lt_of_cell? Y0 _ (HCR8.out j x hx))).trans (HCR8.out j x hx)) (fun e => HGH.out (by injection e with e; exact e.symm)))
        have hlr := HO9.out.leafAt q hq64
        rw [HLQ.out, HCC.out] at hlr
        have HLR := Lib.hid hlr
        obtain ⟨k0, k1, k2⟩ := HX.out _ HBW9.out
        replace K0 := Lib.hid k0
        clear hset hlr k0 k1 k2 hS0 hS1 hS2 hgrS hth9 hb1 HO8 HT8 HK8 HCR8 HO1 K1 HSB hi1 hone hsC
        generalize Y1.setCells gl (q * 32) C.toArray.toList = w9 at HO9 HT9 HK9 HBW9 HCR HLR K0 ⊢
        go_wp2_with fail
        refine wp_region_held_drew (S := fun X => X = w9.drew) hfo rfl (fun hS0 => ?_)
        generalize w9.drew = Y9 at *
        refine' wpAnyH_take (i := 0) (oi := ⟨some 96, _, _, _, _, _⟩) (v := _) rfl (by kernel_rfl) (by kernel_rfl) (by kernel_rfl) (fun _ _ _ h => h) (Or.inl ⟨by rfl, ?y0T⟩) hS0 ?r0T
        case y0T => (intro w' hSw; subst hSw; have d0 := K0.out; have e3 := HEQ.out; go_simp; try rfl)
        try simp only [Act.put, List.setIfInBounds_toArray, List.set_cons_zero, List.set_cons_succ]
        refine' wpAnyH_take (i := 2) (oi := ⟨some 98, _, _, _, _, _⟩) (v := _) rfl (by kernel_rfl) (by kernel_rfl) (by kernel_rfl) (fun _ _ _ h => h) (Or.inl ⟨by rfl, ?y2T⟩) hS0 ?r2T
        case y2T => (intro w' hSw; subst hSw; have d0 := K0.out; have e3 := HEQ.out; go_simp; try rfl)
        try simp only [Act.put, List.setIfInBounds_toArray, List.set_cons_zero, List.set_cons_succ]
        refine held_one (i := 1) (by kernel_rfl) rfl (fun KT hK => ?_)
        go_simp
        refine (num_any _ _).mono ?_
        rintro e Z1 ⟨rfl, rfl⟩
        refine hK.out _ _ hS0 (fun _ => ?_)
        clear hK KT
        try simp only [Act.put, List.setIfInBounds_toArray, List.set_cons_zero, List.set_cons_succ]
        refine held_one (i := 3) (by kernel_rfl) rfl (fun KT hK => ?_)
        go_simp
        refine (num_any _ _).mono ?_
        rintro e Z1 ⟨rfl, rfl⟩
        refine hK.out _ _ hS0 (fun _ => ?_)
        clear hK KT
        try simp only [Act.put, List.setIfInBounds_toArray, List.set_cons_zero, List.set_cons_succ]
        refine' wpAnyH_take (i := 4) (oi := ⟨some 100, _, _, _, _, _⟩) (v := _) rfl (by kernel_rfl) (by kernel_rfl) (by kernel_rfl) (fun _ _ _ h => h) (Or.inl ⟨by rfl, ?y4T⟩) hS0 ?r4T
        case y4T => (intro w' hSw; subst hSw; have d0 := K0.out; have e3 := HEQ.out; go_simp; try rfl)
        try simp only [Act.put, List.setIfInBounds_toArray, List.set_cons_zero, List.set_cons_succ]
        refine' wpAnyH_take (i := 5) (oi := ⟨some 101, _, _, _, _, _⟩) (v := _) rfl (by kernel_rfl) (by kernel_rfl) (by kernel_rfl) (fun _ _ _ h => h) (Or.inl ⟨by rfl, ?y5T⟩) hS0 ?r5T
        case y5T => (intro w' hSw; subst hSw; have d0 := K0.out; have e3 := HEQ.out; go_simp; try rfl)
        try simp only [Act.put, List.setIfInBounds_toArray, List.set_cons_zero, List.set_cons_succ]
        refine' wpAnyH_take (i := 6) (oi := ⟨some 102, _, _, _, _, _⟩) (v := _) rfl (by kernel_rfl) (by kernel_rfl) (by kernel_rfl) (fun _ _ _ h => h) (Or.inl ⟨by rfl, ?y6T⟩) hS0 ?r6T
        case y6T => (intro w' hSw; subst hSw; have d0 := K0.out; have e3 := HEQ.out; go_simp; try rfl)
        try simp only [Act.put, List.setIfInBounds_toArray, List.set_cons_zero, List.set_cons_succ]
        refine' wpAnyH_take (i := 8) (oi := ⟨some 104, _, _, _, _, _⟩) (v := _) rfl (by kernel_rfl) (by kernel_rfl) (by kernel_rfl) (fun _ _ _ h => h) (Or.inl ⟨by rfl, ?y8T⟩) hS0 ?r8T
        case y8T => (intro w' hSw; subst hSw; have d0 := K0.out; have e3 := HEQ.out; go_simp; try rfl)
        try simp only [Act.put, List.setIfInBounds_toArray, List.set_cons_zero, List.set_cons_succ]
        refine' wpAnyH_take (i := 9) (oi := ⟨some 105, _, _, _, _, _⟩) (v := _) rfl (by kernel_rfl) (by kernel_rfl) (by kernel_rfl) (fun _ _ _ h => h) (Or.inl ⟨by rfl, ?y9T⟩) hS0 ?r9T
        case y9T => (intro w' hSw; subst hSw; have d0 := K0.out; have e3 := HEQ.out; go_simp; try rfl)
        try simp only [Act.put, List.setIfInBounds_toArray, List.set_cons_zero, List.set_cons_succ]
        refine' wpAnyH_take (i := 10) (oi := ⟨some 106, _, _, _, _, _⟩) (v := _) rfl (by kernel_rfl) (by kernel_rfl) (by kernel_rfl) (fun _ _ _ h => h) (Or.inl ⟨by rfl, ?y10T⟩) hS0 ?r10T
        case y10T => (intro w' hSw; subst hSw; have d0 := K0.out; have e3 := HEQ.out; go_simp; try rfl)
        try simp only [Act.put, List.setIfInBounds_toArray, List.set_cons_zero, List.set_cons_succ]
        refine' wpAnyH_take (i := 11) (oi := ⟨some 107, _, _, _, _, _⟩) (v := _) rfl (by kernel_rfl) (by kernel_rfl) (by kernel_rfl) (fun _ _ _ h => h) (Or.inl ⟨by rfl, ?y11T⟩) hS0 ?r11T
        case y11T => (intro w' hSw; subst hSw; have d0 := K0.out; have e3 := HEQ.out; go_simp; try rfl)
        try simp only [Act.put, List.setIfInBounds_toArray, List.set_cons_zero, List.set_cons_succ]
        refine' wpAnyH_take (i := 12) (oi := ⟨some 108, _, _, _, _, _⟩) (v := _) rfl (by kernel_rfl) (by kernel_rfl) (by kernel_rfl) (fun _ _ _ h => h) (Or.inl ⟨by rfl, ?y12T⟩) hS0 ?r12T
        case y12T => (intro w' hSw; subst hSw; have d0 := K0.out; have e3 := HEQ.out; go_simp; try rfl)
        try simp only [Act.put, List.setIfInBounds_toArray, List.set_cons_zero, List.set_cons_succ]
        refine' wpAnyH_take (i := 13) (oi := ⟨some 109, _, _, _, _, _⟩) (v := _) rfl (by kernel_rfl) (by kernel_rfl) (by kernel_rfl) (fun _ _ _ h => h) (Or.inl ⟨by rfl, ?y13T⟩) hS0 ?r13T
        case y13T => (intro w' hSw; subst hSw; have d0 := K0.out; have e3 := HEQ.out; go_simp; try rfl)
        try simp only [Act.put, List.setIfInBounds_toArray, List.set_cons_zero, List.set_cons_succ]
        refine' wpAnyH_take (i := 14) (oi := ⟨some 110, _, _, _, _, _⟩) (v := _) rfl (by kernel_rfl) (by kernel_rfl) (by kernel_rfl) (fun _ _ _ h => h) (Or.inl ⟨by rfl, ?y14T⟩) hS0 ?r14T
        case y14T => (intro w' hSw; subst hSw; have d0 := K0.out; have e3 := HEQ.out; go_simp; try rfl)
        try simp only [Act.put, List.setIfInBounds_toArray, List.set_cons_zero, List.set_cons_succ]
        refine' wpAnyH_take (i := 7) (oi := ⟨some 103, _, _, _, _, _⟩) (v := .agg C.toArray) rfl (by kernel_rfl) (by kernel_rfl) (by kernel_rfl) (fun _ _ _ h => h) (yieldsIf_load_mid (by rfl) 39 _ rfl gh (0) rfl C _ (fun X hX => by subst hX; exact HCR.out) Tryd.underlying39 rfl hil) hS0 ?r7T
        try simp only [Act.put, List.setIfInBounds_toArray, List.set_cons_zero, List.set_cons_succ]
        refine' wpAnyH_take (i := 15) (oi := ⟨some 111, _, _, _, _, _⟩) (v := .agg C.toArray) rfl (by kernel_rfl) (by kernel_rfl) (by kernel_rfl) (fun _ _ _ h => h) (yieldsIf_load_mid (by rfl) 39 _ rfl gl (q * 32) rfl C _ (fun X hX => by subst hX; exact HLR.out) Tryd.underlying39 rfl hil) hS0 ?r15T
        try simp only [Act.put, List.setIfInBounds_toArray, List.set_cons_zero, List.set_cons_succ]
        refine' wpAnyH_take (i := 16) (oi := ⟨some 112, _, _, _, _, _⟩) (v := _) rfl (by kernel_rfl) (by kernel_rfl) (by kernel_rfl) (fun _ _ _ h => h) (Or.inl ⟨by rfl, ?y16T⟩) hS0 ?r16T
        case y16T => (intro w' hSw; subst hSw; have d0 := K0.out; have e3 := HEQ.out; go_simp; try rfl)
        try simp only [Act.put, List.setIfInBounds_toArray, List.set_cons_zero, List.set_cons_succ]
        refine' wpAnyH_take (i := 17) (oi := ⟨some 113, _, _, _, _, _⟩) (v := _) rfl (by kernel_rfl) (by kernel_rfl) (by kernel_rfl) (fun _ _ _ h => h) (Or.inl ⟨by rfl, ?y17T⟩) hS0 ?r17T
        case y17T => (intro w' hSw; subst hSw; have d0 := K0.out; have e3 := HEQ.out; go_simp; try rfl)
        try simp only [Act.put, List.setIfInBounds_toArray, List.set_cons_zero, List.set_cons_succ]
        refine wpAnyH_done (by kernel_rfl) ?_ _
        have HREL := Lib.hid (show SetRel g gl base c w Y9 from ⟨M, HT9.out, HGM.out, HO9.out, HK9.out⟩)
        clear hS0 HT9 HK9 HO9 HBW9 HCR HLR K0
        go_wp2
        go_roundw
        case rel => exact ⟨i + 1, by go_num, by omega, HREL.out⟩
        case measure => simp [intOf]; omega
      · have hnn : n < 0 ∨ 64 ≤ n := by omega
        clear hin
        obtain ⟨k0, k1, k2⟩ := HX.out w4 HBW4.out
        clear k1 k2
        go_wp2_with fail
        refine (set_out w4 g KT HT4.out n hnn _ ⟨_, _, _, rfl⟩).mono ?_
        rintro e w5 ⟨rfl, hb5⟩
        have HB5 := Lib.hid hb5
        have HBW5 := Lib.hid (HBW4.out.trans (hb5.mono HBW4.out.size))
        clear k0 hb5
        obtain ⟨k0, k1, k2⟩ := HX.out w5 HBW5.out
        clear k1 k2
        go_wp2_with fail
        refine (leaf_no n hnn _ w5 ⟨_, _, _, rfl⟩).mono ?_
        rintro e w6 ⟨rfl, hb6⟩
        have hi := rowB_info zero32_length
        have h1 := rowB_one zero32
        have hs1 := rowB_size zero32
        rw [zero32_length] at hs1
        have HE := Lib.hid (show ∀ w, (Op.equalIn 10000 39 (.agg (rowB zero32)) (.agg #[.int .u8 0, .int .u8 0, .int .u8 0, .int .u8 0, .int .u8 0, .int .u8 0, .int .u8 0, .int .u8 0, .int .u8 0, .int .u8 0, .int .u8 0, .int .u8 0, .int .u8 0, .int .u8 0, .int .u8 0, .int .u8 0, .int .u8 0, .int .u8 0, .int .u8 0, .int .u8 0, .int .u8 0, .int .u8 0, .int .u8 0, .int .u8 0, .int .u8 0, .int .u8 0, .int .u8 0, .int .u8 0, .int .u8 0, .int .u8 0, .int .u8 0, .int .u8 0])).run Tryd.prog w = .ok true w from fun w => hash_self zero32 zero32_length w)
        generalize rowB zero32 = R at hi h1 hs1 HE ⊢
        clear k0
        have hN := Blk.new w6 39 (rowB (List.replicate 32 0))
        have hb9 : Below w6.heap.size w6 (w6.alloc (.cells (rowB (List.replicate 32 0)) 39)) := (Below.refl _ _).alloc (Nat.le_refl _) _
        have hZ : (rowB (List.replicate 32 0)).size = 32 := by rw [rowB_size, List.length_replicate]
        have hth : (w6.alloc (.cells (rowB (List.replicate 32 0)) 39)).there w6.heap.size 0 R.size := by rw [hs1, ← hZ]; exact hN.there
        have hgr := grown_setCells w6.heap.size R.toList 0 (w6.alloc (.cells (rowB (List.replicate 32 0)) 39))
        have HBE := Lib.hid (Below.only hb9 hgr (Nat.le_refl _) hb9.size)
        have HCELL := Lib.hid (hN.setRow (ds := R) (by rw [hs1, hZ]))
        clear hN hb9 hgr hZ
        go_upto_region 7 with (refine wpList_store_mid rfl 39 _ _ rfl w6.heap.size 0 R rfl rfl hth hi h1 ?_)
        change Code.wp _ _ _ _ ((w6.alloc (.cells (rowB (List.replicate 32 0)) 39)).setCells w6.heap.size 0 R.toList)
        generalize (w6.alloc (.cells (rowB (List.replicate 32 0)) 39)).setCells w6.heap.size 0 R.toList = w7 at HBE HCELL ⊢
        clear hth
        have HB47 := Lib.hid (HB5.out.trans ((hb6.trans (HBE.out.mono hb6.size)).mono HB5.out.size))
        have HC7 := Lib.hid (show Blk w7.drew w6.heap.size 39 R from HCELL.out.drew)
        generalize w6.heap.size = gh at HC7 ⊢
        have HK7 := Lib.hid (show Kp g gl w w7.drew from HK4.out.trans (Kp.of_below HB47.out.drew))
        have HBW7 := Lib.hid (Kp.below HW.out HK7.out HW.out.size hg1 hg2)
        have HT7 := Lib.hid (show Tr w7.drew g KT from (HT4.out.past HB47.out).drew)
        have HO7 := Lib.hid (show OwnH w7.drew base (.slice (some ⟨gl, 0, none⟩) 64 c) (leavesOf KT) from (HLE4.out.below HB47.out).drew)
        obtain ⟨k0, k1, k2⟩ := HX.out w7.drew HBW7.out
        have K0 := Lib.hid k0
        have K1 := Lib.hid k1
        obtain ⟨s, hs⟩ : ∃ s : ByteArray, (⟨bs.toArray⟩ : ByteArray) = s := ⟨_, rfl⟩
        have hcv1 := ((HO4.out.sl.below HB47.out).drew).conv (P := Tryd.prog) (src := 45) (dst := 9) (e := 5) Tryd.underlying45 Tryd.underlying5 Tryd.underlying9
        have hcv2 := k2.conv (P := Tryd.prog) (src := 45) (dst := 9) (e := 5) Tryd.underlying45 Tryd.underlying5 Tryd.underlying9
        rw [hs] at hcv1 hcv2
        have HCV1 := Lib.hid hcv1
        have HCV2 := Lib.hid hcv2
        clear k0 k1 k2 hcv1 hcv2 hs HBE HCELL hb6 h1 hs1 HT4 HLE4 HBW4 HB5 HBW5 HB47
        go_wp2_with fail
        refine wp_region_held_drew (S := fun X => X = w7.drew) hfo rfl (fun hS0 => ?_)
        generalize w7.drew = w8 at *
        refine' wpAnyH_take (i := 0) (oi := ⟨some 42, _, _, _, _, _⟩) (v := _) rfl (by kernel_rfl) (by kernel_rfl) (by kernel_rfl) (fun _ _ _ h => h) (Or.inl ⟨by rfl, ?y0N⟩) hS0 ?r0N
        case y0N => (intro w' hSw; subst hSw; have d1 := K1.out; go_simp; try rfl)
        try simp only [Act.put, List.setIfInBounds_toArray, List.set_cons_zero, List.set_cons_succ]
        refine' wpAnyH_take (i := 2) (oi := ⟨some 44, _, _, _, _, _⟩) (v := _) rfl (by kernel_rfl) (by kernel_rfl) (by kernel_rfl) (fun _ _ _ h => h) (Or.inl ⟨by rfl, ?y2N⟩) hS0 ?r2N
        case y2N => (intro w' hSw; subst hSw; have d1 := K1.out; go_simp; try rfl)
        try simp only [Act.put, List.setIfInBounds_toArray, List.set_cons_zero, List.set_cons_succ]
        refine' wpAnyH_take (i := 3) (oi := ⟨some 45, _, _, _, _, _⟩) (v := _) rfl (by kernel_rfl) (by kernel_rfl) (by kernel_rfl) (fun _ _ _ h => h) (Or.inl ⟨by rfl, ?y3N⟩) hS0 ?r3N
        case y3N => (intro w' hSw; subst hSw; have d1 := K1.out; go_simp; try rfl)
        try simp only [Act.put, List.setIfInBounds_toArray, List.set_cons_zero, List.set_cons_succ]
        refine' wpAnyH_take (i := 4) (oi := ⟨some 46, _, _, _, _, _⟩) (v := _) rfl (by kernel_rfl) (by kernel_rfl) (by kernel_rfl) (fun _ _ _ h => h) (Or.inl ⟨by rfl, ?y4N⟩) hS0 ?r4N
        case y4N => (intro w' hSw; subst hSw; have d1 := K1.out; go_simp; try rfl)
        try simp only [Act.put, List.setIfInBounds_toArray, List.set_cons_zero, List.set_cons_succ]
        refine' wpAnyH_take (i := 5) (oi := ⟨some 47, _, _, _, _, _⟩) (v := _) rfl (by kernel_rfl) (by kernel_rfl) (by kernel_rfl) (fun _ _ _ h => h) (Or.inl ⟨by rfl, ?y5N⟩) hS0 ?r5N
        case y5N => (intro w' hSw; subst hSw; have d1 := K1.out; go_simp; try rfl)
        try simp only [Act.put, List.setIfInBounds_toArray, List.set_cons_zero, List.set_cons_succ]
        refine' wpAnyH_take (i := 6) (oi := ⟨some 48, _, _, _, _, _⟩) (v := _) rfl (by kernel_rfl) (by kernel_rfl) (by kernel_rfl) (fun _ _ _ h => h) (Or.inl ⟨by rfl, ?y6N⟩) hS0 ?r6N
        case y6N => (intro w' hSw; subst hSw; have d1 := K1.out; go_simp; try rfl)
        try simp only [Act.put, List.setIfInBounds_toArray, List.set_cons_zero, List.set_cons_succ]
        refine' wpAnyH_take (i := 1) (oi := ⟨some 43, _, _, _, _, _⟩) (v := _) rfl (by kernel_rfl) (by kernel_rfl) (by kernel_rfl) (fun _ _ _ h => h) (Or.inl ⟨by rfl, ?y1N⟩) hS0 ?r1N
        case y1N => (intro w' hSw; subst hSw; have c1 := HCV1.out; go_simp; try rfl)
        try simp only [Act.put, List.setIfInBounds_toArray, List.set_cons_zero, List.set_cons_succ]
        refine' wpAnyH_take (i := 7) (oi := ⟨some 49, _, _, _, _, _⟩) (v := _) rfl (by kernel_rfl) (by kernel_rfl) (by kernel_rfl) (fun _ _ _ h => h) (Or.inl ⟨by rfl, ?y7N⟩) hS0 ?r7N
        case y7N => (intro w' hSw; subst hSw; have c1 := HCV2.out; go_simp; try rfl)
        try simp only [Act.put, List.setIfInBounds_toArray, List.set_cons_zero, List.set_cons_succ]
        refine' wpAnyH_take (i := 8) (oi := ⟨some 50, _, _, _, _, _⟩) (v := _) rfl (by kernel_rfl) (by kernel_rfl) (by kernel_rfl) (fun _ _ _ h => h) (Or.inl ⟨by rfl, ?y8N⟩) hS0 ?r8N
        case y8N => (intro w' hSw; subst hSw; go_simp; try rfl)
        try simp only [Act.put, List.setIfInBounds_toArray, List.set_cons_zero, List.set_cons_succ]
        refine wpAnyH_done (by kernel_rfl) ?_ _
        clear HCV1 HCV2 hS0
        have HREL := Lib.hid (show SetRel g gl base c w w8 from ⟨KT, HT7.out, HGK.out, HO7.out, HK7.out⟩)
        have d0 := K0.out
        have e3 := HE.out
        have hc8 := HC7.out
        rcases hnn with hnn | hnn
        · go_wp2_with (first | (go_at_call 17; refine (num_any _ _).mono ?_; rintro e w' ⟨rfl, rfl⟩) | (refine wpList_load_row_g (by rfl) 39 _ rfl gh rfl 39 R (0, 0) _ hc8 Tryd.underlying39 rfl hi ?_))
          go_roundw
          case rel => exact ⟨i + 1, by go_num, by omega, HREL.out⟩
          case measure => simp [intOf]; omega
        · have hnn' : ¬ n < 0 := by omega
          go_wp2_with (first | (go_at_call 17; refine (num_any _ _).mono ?_; rintro e w' ⟨rfl, rfl⟩) | (refine wpList_load_row_g (by rfl) 39 _ rfl gh rfl 39 R (0, 0) _ hc8 Tryd.underlying39 rfl hi ?_))
          go_roundw
          case rel => exact ⟨i + 1, by go_num, by omega, HREL.out⟩
          case measure => simp [intOf]; omega
    · obtain rfl : i = L.length := by omega
      go_wp2
      go_ret
      exact ⟨KT, rfl, HT.out, HGK.out, HO.out, HKP.out⟩
end Go.Proofs.YtdbhffkfkklehaaDoor

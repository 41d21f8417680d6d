/-
  The walks of Of and of New.
-/
import Derived.Test.YtdbhffkfkklehaaDoorMkCopA
import Derived.Great.Walk
namespace Go.Proofs.YtdbhffkfkklehaaDoor
open Go.RowKit
set_option linter.unusedVariables false
set_option linter.unusedSimpArgs false
set_option maxRecDepth 100000

/-- A slice of one hash, built. -/
theorem built_one (C : List Value) (hC : C.length = 32) : Tryd.prog.builtSlice 39 1 [(0, .agg C.toArray)] = some C.toArray := by
  obtain ⟨i0, hi, hz0, hz1, hz2⟩ := info_parts info_hash
  unfold Program.builtSlice
  simp only [hi, hz0]
  rw [hz1, if_neg (by decide)]
  generalize hZ : (Array.range (1 * 32)).map ((Value.cells (.agg (rowB (List.replicate 32 0))))[· % (Value.cells (.agg (rowB (List.replicate 32 0)))).size]!) = Z
  have hzs : Z.size = 32 := by rw [← hZ]; simp
  rw [fill_step _ _ 0 _ _ 0 32 rfl (by simp [Value.cells, hC]) (by rw [hzs]; omega)]
  show some _ = some _
  congr 1
  rw [show Value.cells (.agg C.toArray) = C.toArray from rfl, ← Array.foldl_toList, Array.toList_zipIdx]
  apply Array.ext_getElem?
  intro i
  have := fill_fold 0 C 0 Z (by omega) i
  rw [this, hC]
  by_cases hi : i < 32
  · rw [if_pos (by omega), List.getElem?_toArray]; congr 1
  · rw [if_neg (by omega), Array.getElem?_eq_none (by omega), Array.getElem?_eq_none (by simp [hC]; omega)]

/-- These leaves, and what is above them as it was. -/
def withL (H : Nat → List UInt8) (L : List (List UInt8)) : Nat → List UInt8 := fun n => if 64 ≤ n then L.getD (n - 64) zero32 else H n
theorem withL_leaves (H : Nat → List UInt8) (L : List (List UInt8)) (hl : L.length = 64) : leavesOf (withL H L) = L := by
  apply List.ext_getElem (by rw [leavesOf_length, hl])
  intro i h1 h2
  rw [leavesOf_get, withL, if_pos (by omega), Nat.add_sub_cancel_left, List.getD_eq_getElem?_getD, List.getElem?_eq_getElem h2]
  rfl
theorem withL_len {H : Nat → List UInt8} {L : List (List UInt8)} (h : Len H) (ha : All32 L) : Len (withL H L) := by
  intro n hn
  unfold withL
  split
  · rw [List.getD_eq_getElem?_getD]
    rcases e : L[n - 64]? with _ | x
    · rfl
    · exact ha x (List.mem_of_getElem? e)
  · exact h n hn
theorem Tr.copied {w : World} {g : Nat} {H : Nat → List UInt8} (h : Tr w g H) {L : List (List UInt8)} (ha : All32 L) (hl : L.length = 64) : Tr (w.setCells g 2049 (hcs L)) g (withL H L) := by
  have hlen := withL_len h.len ha
  refine ⟨hlen, ?_⟩
  have hcl := hcs_length L ha
  obtain ⟨ds, h1, h2, h3⟩ := Blk.setAll (t := 43) (hcs L) 2049 w _ h.row
  have e : ds = treeRow true (withL H L) := by
    apply Array.ext_getElem?
    intro i
    rw [treeRow_size _ _ h.len] at h2 h3
    by_cases hi : i < 4097
    · rw [h3 i hi, hcl, hl]
      rcases Nat.eq_zero_or_pos i with rfl | hp
      · rw [if_neg (by omega)]; rfl
      · have hq : (i - 1) / 32 < 128 := by omega
        have e : i = 1 + (i - 1) / 32 * 32 + (i - 1) % 32 := by omega
        have hr : (i - 1) % 32 < 32 := Nat.mod_lt _ (by decide)
        generalize (i - 1) / 32 = q at hq e
        generalize (i - 1) % 32 = r at hr e
        subst e
        rw [treeRow_get _ _ hlen q r hq hr, treeRow_get _ _ h.len q r hq hr]
        by_cases c : 64 ≤ q
        · have hg := hcs_get L ha (q - 64) (by omega) r hr
          rw [if_pos (by omega), show 1 + q * 32 + r - 2049 = (q - 64) * 32 + r by omega, hg, withL, if_pos c, List.getD_eq_getElem?_getD, List.getElem?_eq_getElem (show q - 64 < L.length by omega)]
          rfl
        · rw [if_neg (by omega), withL, if_neg c]
    · rw [Array.getElem?_eq_none (by omega), Array.getElem?_eq_none (by rw [treeRow_size _ _ hlen]; omega)]
  rw [← e]; exact h1

theorem of_no (w : World) (v : Value) (L : List (List UInt8)) (h : Sh w v L) (hl : L.length ≠ 64) :
    Calls Tryd.prog 16 #[v] w fun e w' => e = .returned (.tuple #[.pointer none, .int .i64 2]) ∧ w = w' := by
  obtain ⟨A, n, c, rfl⟩ := h.shape
  have hn := h.len
  subst hn
  have hne : ((L.length : Int) != 64) = true := by rw [bne_iff_ne]; omega
  go_enter Tryd.func16, Tryd.ntmps16
  go_wp2
  go_ret2
  exact ⟨rfl, rfl⟩

/-- What Of answers: a new tree with these leaves, all as said. -/
def OfEnd (L : List (List UInt8)) (w : World) (e : Ending) (w' : World) : Prop :=
  ∃ g K, e = .returned (.tuple #[.pointer (some ⟨g, 0, none⟩), .int .i64 0]) ∧ w.heap.size ≤ g ∧ Tr w' g K ∧ Good K ∧ leavesOf K = L ∧ Below w.heap.size w w'

set_option maxHeartbeats 4000000 in
theorem of_any (w : World) (v : Value) (L : List (List UInt8)) (h : Sh w v L) (hl : L.length = 64) (hg : Gl w) :
    Calls Tryd.prog 16 #[v] w (OfEnd L w) := by
  obtain ⟨i0, hi, hz0, hz1, hz2⟩ := info_parts info_hash
  have HS := Lib.hid h
  obtain ⟨A, n, c, rfl⟩ := h.shape
  have hn := h.len
  rw [hl] at hn
  subst hn
  have HB := Lib.hid built_new
  have hT0 : Tr (w.alloc (.cells (treeRow true fun _ => zero32) 43)) w.heap.size (fun _ => zero32) := ⟨fun n _ => rfl, Blk.new w _ _⟩
  have hS0 := h.alloc (.cells (treeRow true fun _ => zero32) 43)
  have hb0 : Below w.heap.size w (w.alloc (.cells (treeRow true fun _ => zero32) 43)) := (Below.refl _ _).alloc (Nat.le_refl _) _
  clear h
  generalize hR : (treeRow true fun _ => zero32) = R at HB hT0 hS0 hb0
  have HR := Lib.hid hR
  clear hR
  have hth := hT0.there 2049 (64 * 32) (by decide)
  have HT1 := Lib.hid (hT0.copied HS.out.all hl)
  have hb1 : Below w.heap.size w ((w.alloc (.cells R 43)).setCells w.heap.size 2049 (hcs L)) := Below.only hb0 (grown_setCells _ _ _ _) (Nat.le_refl _) hb0.size
  have HL := Lib.hid (withL_leaves (fun _ => zero32) L hl)
  have Hl := Lib.hid hl
  clear hT0
  go_enter Tryd.func16, Tryd.ntmps16
  go_upto_region 4 with (refine wpList_build_to rfl 43 _ rfl R ?hbc ?_; case hbc => exact Eq.trans (by kernel_rfl) HB.out)
  go_upto_region 5 with (refine wpList_copy_hs _ rfl _ _ 27 rfl i0 Tryd.underlying27 hi hz1 w.heap.size 2049 64 64 rfl (.slice A 64 c) L rfl hS0 hl (by decide) hth ?_)
  change Code.wp _ _ _ _ ((w.alloc (.cells R 43)).setCells w.heap.size 2049 (hcs L))
  generalize (w.alloc (.cells R 43)).setCells w.heap.size 2049 (hcs L) = W at HT1 hb1 ⊢
  clear hth hS0 hb0 HB
  obtain ⟨K0, hK0⟩ : ∃ K0, withL (fun _ => zero32) L = K0 := ⟨_, rfl⟩
  rw [hK0] at HT1 HL
  clear hK0
  go_wp2
  go_loopw [5] (fun z wr => ∃ n K, z = .int .i64 ((n : Nat) : Int) ∧ n ≤ 63 ∧ Tr wr w.heap.size K ∧ leavesOf K = L ∧ (∀ i, n < i → i < 64 → Ok K i) ∧ Below w.heap.size w wr) (fun z _ => (intOf z).toNat)
  case atStart => exact ⟨63, K0, rfl, by decide, HT1.out, HL.out, fun i h1 h2 => absurd h2 (by omega), hb1⟩
  case round =>
    clear HT1 HL hb1
    obtain ⟨n, K, rfl, hn, ht, hLv, hok, hb⟩ := hrel
    have HT := Lib.hid ht
    have HLv := Lib.hid hLv
    have HOk := Lib.hid hok
    have HBw := Lib.hid hb
    clear ht hLv hok hb
    by_cases h0 : 1 ≤ n
    · obtain ⟨m, rfl⟩ : ∃ m, n = m + 1 := ⟨n - 1, by omega⟩
      go_wp2_with fail
      refine (sum_tree wr w.heap.size (m + 1) K HT.out (by omega) (by omega) (hg.below HBw.out)).mono ?_
      rintro e w2 ⟨rfl, ht2, hgr⟩
      have HT2 := Lib.hid ht2
      have HB2 := Lib.hid (Below.only HBw.out hgr (Nat.le_refl _) HBw.out.size)
      clear ht2 hgr
      go_wp2
      go_roundw
      case rel =>
        refine ⟨m, anew K (m + 1), by go_num, by omega, HT2.out, by rw [leavesOf_anew K (m + 1) (by omega)]; exact HLv.out, ?_, HB2.out⟩
        intro i hi1 hi2
        by_cases e : i = m + 1
        · subst e; exact anew_ok K (m + 1) (by omega)
        · exact anew_keeps K (m + 1) i (HOk.out i (by omega) hi2) e (by omega) (by omega)
      case measure => simp [intOf]
    · obtain rfl : n = 0 := by omega
      go_wp2
      go_ret2
      exact ⟨w.heap.size, K, rfl, Nat.le_refl _, HT.out, fun i h1 h2 => HOk.out i (by omega) h2, HLv.out, HBw.out⟩
end Go.Proofs.YtdbhffkfkklehaaDoor

/-
  The walk of New.
-/
namespace Go.Proofs.YtdbhffkfkklehaaDoor
open Go.RowKit
set_option linter.unusedVariables false
set_option linter.unusedSimpArgs false
set_option maxRecDepth 100000

/-- The leaves of empty buckets. -/
def emptyL (k : Nat) : List (List UInt8) := (List.range k).map fun i => leafN i []
theorem emptyL_succ (k : Nat) : emptyL (k + 1) = emptyL k ++ [leafN k []] := by simp [emptyL, List.range_succ]
theorem emptyL_length (k : Nat) : (emptyL k).length = k := by simp [emptyL]
theorem Sh.one (w : World) {x : List UInt8} (hx : x.length = 32) : Sh (w.alloc (.cells (hcells x).toArray 39)) (.slice (some ⟨w.heap.size, 0, none⟩) 1 1) [x] := by
  refine ⟨All32.one hx, _, 1, rfl, Nat.le_refl _, fun _ => ⟨_, 0, rfl, fun j hj => ?_⟩⟩
  have h0 : j = 0 := by simpa using hj
  subst h0
  intro i v hv
  rw [(Blk.new w 39 (hcells x).toArray).cell]
  simp only [Nat.zero_mul, Nat.zero_add, List.getElem?_toArray]
  exact hv
/-- What New answers. -/
def NewEnd (w : World) (e : Ending) (w' : World) : Prop :=
  ∃ g K, e = .returned (.pointer (some ⟨g, 0, none⟩)) ∧ w.heap.size ≤ g ∧ Tr w' g K ∧ Good K ∧ leavesOf K = emptyL 64 ∧ Below w.heap.size w w'

set_option maxHeartbeats 4000000 in
theorem new_any (w : World) (hg : Gl w) : Calls Tryd.prog 9 #[] w (NewEnd w) := by
  obtain ⟨i0, hi, hz0, hz1, hz2⟩ := info_parts info_hash
  go_enter Tryd.func9, Tryd.ntmps9
  go_wp2
  go_loopw [1, 7] (fun x z wr => ∃ k : Nat, z = .int .i64 (k : Int) ∧ k ≤ 64 ∧ OwnH wr w.heap.size x (emptyL k) ∧ Below w.heap.size w wr) (fun _ z _ => 64 - (intOf z).toNat)
  case atStart => exact ⟨0, rfl, by decide, OwnH.nil, Below.refl _ _⟩
  case round =>
    obtain ⟨k, rfl, hk, ho, hb⟩ := hrel
    have HO := Lib.hid ho
    have HB := Lib.hid hb
    clear ho hb
    have hsh := HO.out.sh.shape
    obtain ⟨A1, n1, c1, rfl⟩ := hsh
    by_cases hlt : k < 64
    · go_wp2_with fail
      refine (leaf_any k hlt _ [] wr (Sl.nil none 0) (by decide) (hg.below HB.out)).mono ?_
      rintro e w1 ⟨rfl, hb1⟩
      have hE := emptyL_succ k
      have h32 := leafN_length k []
      have HE := Lib.hid hE
      have H32 := Lib.hid h32
      clear hE h32
      obtain ⟨hil, hi1, hone, hs1⟩ := hc_facts H32.out
      rw [← hcells_arr]
      have HO1 := Lib.hid (HO.out.below hb1)
      have HB1 := Lib.hid (HB.out.trans (hb1.mono HB.out.size))
      clear hb1
      have hN := Blk.new w1 39 (rowB (List.replicate 32 0))
      have HO2 := Lib.hid (HO1.out.alloc (.cells (rowB (List.replicate 32 0)) 39))
      have hb2 : Below w.heap.size w (w1.alloc (.cells (rowB (List.replicate 32 0)) 39)) := HB1.out.alloc HB1.out.size _
      have hZ : (rowB (List.replicate 32 0)).size = 32 := by rw [rowB_size, List.length_replicate]
      have hC32 : (hcells (leafN k [])).length = 32 := by rw [hcells_length, H32.out]
      have HCE := Lib.hid (show hcells (leafN k []) = hcells (leafN k []) from rfl)
      generalize hCC : hcells (leafN k []) = C at hil hi1 hone hs1 hC32
      have HC := Lib.hid hCC
      clear hCC HCE
      have hth : (w1.alloc (.cells (rowB (List.replicate 32 0)) 39)).there w1.heap.size 0 C.toArray.size := by rw [hs1, ← hZ]; exact hN.there
      have hE3 := hN.setRow (ds := C.toArray) (by rw [hs1, hZ])
      have hgr := grown_setCells w1.heap.size C.toArray.toList 0 (w1.alloc (.cells (rowB (List.replicate 32 0)) 39))
      have HO3 := Lib.hid (HO2.out.grown hgr (fun e => by have := (HO1.out.lt _ e).2; omega))
      have hb3 := Below.only hb2 hgr HB1.out.size hb2.size
      have hR : ((w1.alloc (.cells (rowB (List.replicate 32 0)) 39)).setCells w1.heap.size 0 C.toArray.toList).rangeAt w1.heap.size 0 C := fun i v hv => by rw [Nat.zero_add, hE3.cell i]; simpa using hv
      go_upto_region 6 with (refine wpList_store_mid rfl 39 _ _ rfl w1.heap.size 0 C.toArray rfl rfl hth hi1 hone ?_)
      change Code.wp _ _ _ _ ((w1.alloc (.cells (rowB (List.replicate 32 0)) 39)).setCells w1.heap.size 0 C.toArray.toList)
      have hg3 : w1.heap.size < ((w1.alloc (.cells (rowB (List.replicate 32 0)) 39)).setCells w1.heap.size 0 C.toArray.toList).heap.size := hE3.lt
      clear hth hE3 hgr HO2 hb2 hN hZ HO
      generalize (w1.alloc (.cells (rowB (List.replicate 32 0)) 39)).setCells w1.heap.size 0 C.toArray.toList = W3 at HO3 hb3 hR hg3 ⊢
      have HBS := Lib.hid (built_one C hC32)
      have HO4 := Lib.hid (HO3.out.alloc (.cells C.toArray 39))
      have hb4 : Below w.heap.size w (W3.alloc (.cells C.toArray 39)) := hb3.alloc hb3.size _
      have HS4 := Lib.hid (show Sh (W3.alloc (.cells C.toArray 39)) (.slice (some ⟨W3.heap.size, 0, none⟩) 1 1) [leafN k []] by rw [← HC.out]; exact Sh.one W3 H32.out)
      have hlen : (emptyL k).length + [leafN k []].length ≤ 1000000 := by rw [emptyL_length]; simp; omega
      go_upto_region 7 with (first | (refine wpList_load_mid rfl 39 _ rfl w1.heap.size 0 rfl C _ hR Tryd.underlying39 rfl hil ?_) | (refine Great.wpList_buildSliceTo rfl 27 39 1 _ rfl W3.heap.size rfl _ rfl Tryd.underlying27 C.toArray ?hbs ?_; case hbs => exact Eq.trans (by kernel_rfl) HBS.out) | (at_builtin; refine wpList_append_hs _ rfl _ _ 27 rfl w.heap.size i0 Tryd.underlying27 hi hz0 hz1 hz2 _ (emptyL k) rfl HO4.out _ [leafN k []] rfl HS4.out hlen hb4.size ?_))
      intro v5 w5 ho5 hb5
      have HO5 := Lib.hid (show OwnH w5 w.heap.size v5 (emptyL (k + 1)) by rw [HE.out]; exact ho5)
      have HB5 := Lib.hid (hb4.trans hb5)
      clear ho5 hb5 hR hil hi1 hone hs1 hC32 hb4 hb3 hlen
      go_wp2
      go_roundw
      case rel => exact ⟨k + 1, by go_num, by omega, HO5.out, HB5.out⟩
      case measure => simp [intOf]; omega
    · obtain rfl : k = 64 := by omega
      go_wp2_with fail
      refine (of_any wr _ (emptyL 64) HO.out.sh (emptyL_length 64) (hg.below HB.out)).mono ?_
      rintro e w2 ⟨g, K, rfl, hgg, ht, hgood, hlv, hb2⟩
      have HT := Lib.hid ht
      have HB2 := Lib.hid (HB.out.trans (hb2.mono HB.out.size))
      have HLV := Lib.hid hlv
      have HG := Lib.hid hgood
      have HGG := Lib.hid (Nat.le_trans HB.out.size hgg)
      clear ht hb2 hlv hgood hgg
      go_wp2
      go_ret
      exact ⟨g, K, rfl, HGG.out, HT.out, HG.out, HLV.out, HB2.out⟩
end Go.Proofs.YtdbhffkfkklehaaDoor

/-
  The walk of Set.
-/
namespace Go.Proofs.YtdbhffkfkklehaaDoor
open Go.RowKit
set_option linter.unusedVariables false
set_option linter.unusedSimpArgs false
set_option maxRecDepth 100000

/-- All nodes above leaves are as said, but perhaps those on the way up from n. -/
def GoodBut (n : Nat) (K : Nat → List UInt8) : Prop := ∀ i, 1 ≤ i → i < 64 → (∀ j, i ≠ n / 2 ^ j) → Ok K i
theorem GoodBut.start {H : Nat → List UInt8} (h : Good H) (b : Nat) (x : List UInt8) : GoodBut ((64 + b) / 2) (upd H (64 + b) x) := by
  intro i h1 h2 hj
  have h0 := hj 0
  rw [Nat.pow_zero, Nat.div_one] at h0
  have := h i h1 h2
  unfold Ok at *
  rw [upd_far _ _ _ _ (by omega), upd_far _ _ _ _ (by omega), upd_far _ _ _ _ (by omega)]
  exact this
theorem GoodBut.step {n : Nat} {K : Nat → List UInt8} (h : GoodBut n K) (hn : 1 ≤ n) : GoodBut (n / 2) (anew K n) := by
  intro i h1 h2 hj
  have h0 := hj 0
  rw [Nat.pow_zero, Nat.div_one] at h0
  by_cases e : i = n
  · subst e; exact anew_ok K i h1
  · refine anew_keeps K n i (h i h1 h2 fun j => ?_) e (by omega) (by omega)
    cases j with
    | zero => simpa using e
    | succ j =>
      have := hj j
      rwa [Nat.div_div_eq_div_mul, show 2 * 2 ^ j = 2 ^ (j + 1) by rw [Nat.pow_succ]; omega] at this
theorem GoodBut.done {K : Nat → List UInt8} (h : GoodBut 0 K) : Good K := fun i h1 h2 => h i h1 h2 (fun j => by simp; omega)

/-- What Set leaves. -/
def SetEnd (g : Nat) (H : Nat → List UInt8) (b : Nat) (l : List UInt8) (w : World) (e : Ending) (w' : World) : Prop :=
  ∃ K, e = .returned (.int .i64 0) ∧ Tr w' g K ∧ Good K ∧ leavesOf K = (leavesOf H).set b (leafN b l) ∧ w.grownBy w' (some g)

set_option maxHeartbeats 4000000 in
theorem set_tree (w : World) (g : Nat) (H : Nat → List UInt8) (h : Tr w g H) (hgood : Good H) (b : Nat) (hb : b < 64) (v : Value) (l : List UInt8) (hs : Sl w v l) (hl : l.length ≤ 900000) (hg : Gl w) :
    Calls Tryd.prog 19 #[.pointer (some ⟨g, 0, none⟩), .int .i64 (b : Int), v] w (SetEnd g H b l w) := by
  have hfo : Tryd.prog.follows .mixedOrders = true := by kernel_rfl
  have HFR := Lib.hid (h.free hg)
  obtain ⟨A0, n0, c0, rfl⟩ := hs.shape
  go_enter Tryd.func19, Tryd.ntmps19
  go_wp2_with fail
  refine (none_tree w h).mono ?_
  rintro e w1 ⟨rfl, rfl⟩
  go_wp2_with fail
  refine (leaf_any b hb _ l w hs hl hg).mono ?_
  rintro e w1 ⟨rfl, hb1⟩
  have HG1 := Lib.hid (hg.below hb1)
  have H32 := Lib.hid (leafN_length b l)
  obtain ⟨hil, hi1, hone, hs1⟩ := hc_facts H32.out
  rw [← hcells_arr]
  have ht1 := h.past hb1
  have hlt1 : g < w1.heap.size := ht1.lt
  have hN := Blk.new w1 39 (rowB (List.replicate 32 0))
  have hb2 : Below w.heap.size w (w1.alloc (.cells (rowB (List.replicate 32 0)) 39)) := hb1.alloc hb1.size _
  have hZ : (rowB (List.replicate 32 0)).size = 32 := by rw [rowB_size, List.length_replicate]
  have HCE := Lib.hid (show hcells (leafN b l) = hcells (leafN b l) from rfl)
  generalize hCC : hcells (leafN b l) = C at hil hi1 hone hs1
  have HC := Lib.hid hCC
  clear hCC HCE
  have hth : (w1.alloc (.cells (rowB (List.replicate 32 0)) 39)).there w1.heap.size 0 C.toArray.size := by rw [hs1, ← hZ]; exact hN.there
  have hE3 := hN.setRow (ds := C.toArray) (by rw [hs1, hZ])
  have hgr := grown_setCells w1.heap.size C.toArray.toList 0 (w1.alloc (.cells (rowB (List.replicate 32 0)) 39))
  have HT3 := Lib.hid (((ht1.alloc (.cells (rowB (List.replicate 32 0)) 39)).grown hgr (by omega)).drew)
  have HG3 := Lib.hid (((HG1.out.alloc (.cells (rowB (List.replicate 32 0)) 39)).grown hgr (by have := HFR.out; omega)))
  have hb3 := Below.only hb2 hgr hb1.size hb2.size
  have HR := Lib.hid (show ((w1.alloc (.cells (rowB (List.replicate 32 0)) 39)).setCells w1.heap.size 0 C.toArray.toList).drew.rangeAt w1.heap.size 0 C from fun i v hv => by rw [Nat.zero_add, hE3.drew.cell i]; simpa using hv)
  have HB3 := Lib.hid ((grown_of_below hb3 (some g)).trans (grown_drew _ (some g)))
  have HNG := Lib.hid (show w1.heap.size ≠ g by omega)
  go_upto_region 4 with (refine wpList_store_mid rfl 39 _ _ rfl w1.heap.size 0 C.toArray rfl rfl hth hi1 hone ?_)
  change Code.wp _ _ _ _ ((w1.alloc (.cells (rowB (List.replicate 32 0)) 39)).setCells w1.heap.size 0 C.toArray.toList)
  have hszd : ((w1.alloc (.cells (rowB (List.replicate 32 0)) 39)).setCells w1.heap.size 0 C.toArray.toList).drew = ((w1.alloc (.cells (rowB (List.replicate 32 0)) 39)).setCells w1.heap.size 0 C.toArray.toList).drew := rfl
  clear hth hE3 hgr hb2 hN hZ hb3 ht1 hb1 h hs hszd HG1 hlt1
  replace HG3 := Lib.hid HG3.out.drew
  generalize (w1.alloc (.cells (rowB (List.replicate 32 0)) 39)).setCells w1.heap.size 0 C.toArray.toList = W3 at HT3 HG3 HR HB3 ⊢
  generalize w1.heap.size = gl at HR HNG ⊢
  go_upto_region 7 with (fail)
  obtain ⟨p, hp⟩ : ∃ p : Nat, p = 64 + b := ⟨_, rfl⟩
  rw [show (64 : Int) + (b : Int) = (p : Int) by omega]
  have BP := Lib.hid (show (p : Int) < 128 by omega)
  have HP := Lib.hid hp
  have hp64 : 64 ≤ p := by omega
  have hp128 : p < 128 := by omega
  clear hp
  go_cut [] (fun wc => Tr wc g (upd H p (leafN b l)) ∧ w.grownBy wc (some g) ∧ Gl wc)
  case first =>
    refine wp_region_held_drew (S := fun X => World.grownBy W3.drew X (some g)) hfo (grown_refl _ _) (fun hS0 => ?_)
    generalize W3.drew = Z0 at *
    refine' wpAnyH_take (i := 0) (oi := ⟨some 24, _, _, _, _, _⟩) (v := _) rfl (by kernel_rfl) (by kernel_rfl) (by kernel_rfl) (fun _ _ _ h => h) (Or.inl ⟨by rfl, ?y0⟩) hS0 ?r0
    case y0 => (intro w' hSw; go_simp; try rfl)
    try simp only [Act.put, List.setIfInBounds_toArray, List.set_cons_zero, List.set_cons_succ]
    refine' wpAnyH_take (i := 1) (oi := ⟨some 25, _, _, _, _, _⟩) (v := _) rfl (by kernel_rfl) (by kernel_rfl) (by kernel_rfl) (fun _ _ _ h => h) (Or.inl ⟨by rfl, ?y1⟩) hS0 ?r1
    case y1 => (intro w' hSw; go_simp; try rfl)
    try simp only [Act.put, List.setIfInBounds_toArray, List.set_cons_zero, List.set_cons_succ]
    refine' wpAnyH_take (i := 3) (oi := ⟨some 27, _, _, _, _, _⟩) (v := _) rfl (by kernel_rfl) (by kernel_rfl) (by kernel_rfl) (fun _ _ _ h => h) (Or.inl ⟨by rfl, ?y3⟩) hS0 ?r3
    case y3 => (intro w' hSw; go_simp; try rfl)
    try simp only [Act.put, List.setIfInBounds_toArray, List.set_cons_zero, List.set_cons_succ]
    refine' wpAnyH_take (i := 4) (oi := ⟨some 28, _, _, _, _, _⟩) (v := _) rfl (by kernel_rfl) (by kernel_rfl) (by kernel_rfl) (fun _ _ _ h => h) (Or.inl ⟨by rfl, ?y4⟩) hS0 ?r4
    case y4 => (intro w' hSw; go_simp; try rfl)
    try simp only [Act.put, List.setIfInBounds_toArray, List.set_cons_zero, List.set_cons_succ]
    refine' wpAnyH_take (i := 2) (oi := ⟨some 26, _, _, _, _, _⟩) (v := .agg C.toArray) rfl (by kernel_rfl) (by kernel_rfl) (by kernel_rfl) (fun _ _ _ h => h) (yieldsIf_load_mid (by rfl) 39 _ rfl gl (0) rfl C _ (fun X hX => fun i u hu => hX.cell (HR.out i u hu) (fun e => HNG.out (by injection e))) Tryd.underlying39 rfl hil) hS0 ?r2
    try simp only [Act.put, List.setIfInBounds_toArray, List.set_cons_zero, List.set_cons_succ]
    refine' wpAnyH_take (i := 5) (oi := ⟨some 29, _, _, _, _, _⟩) (v := _) rfl (by kernel_rfl) (by kernel_rfl) (by kernel_rfl) (fun _ _ _ h => h) (Or.inl ⟨by rfl, ?y5⟩) hS0 ?r5
    case y5 => (intro w' hSw; go_simp; rw [if_pos BP.out]; try rfl)
    try simp only [Act.put, List.setIfInBounds_toArray, List.set_cons_zero, List.set_cons_succ]
    have hth7 : Z0.there g (1 + p * 32) C.toArray.size := by rw [hs1]; exact HT3.out.there _ _ (by omega)
    refine held_one (i := 6) (by kernel_rfl) rfl (fun K hK => ?_)
    rw [if_pos (by rfl)]
    refine wp_store_mid 39 _ _ rfl g (1 + p * 32) C.toArray rfl rfl hth7 hi1 hone ?_
    have hS4 := hS0.trans (grown_setCells g C.toArray.toList (1 + p * 32) Z0)
    refine hK.out _ _ hS4 (fun _ => ?_)
    clear hK K
    try simp only [Act.put, List.setIfInBounds_toArray, List.set_cons_zero, List.set_cons_succ]
    refine wpAnyH_done (by kernel_rfl) ?_ _
    have hT9 : Tr (Z0.setCells g (1 + p * 32) C.toArray.toList) g (upd H p (leafN b l)) := by rw [← HC.out]; exact HT3.out.set p hp128 H32.out
    have hG9 : Gl (Z0.setCells g (1 + p * 32) C.toArray.toList) := HG3.out.grown (grown_setCells g C.toArray.toList (1 + p * 32) Z0) HFR.out
    have hW9 := HB3.out.trans hS4
    generalize Z0.setCells g (1 + p * 32) C.toArray.toList = W9 at hT9 hG9 hW9 ⊢
    go_wp2_with fail
    go_meet
    exact ⟨hT9, hW9, hG9⟩
  case rest =>
    obtain ⟨ht, hw, hgl⟩ := hcut
    have HT := Lib.hid ht
    have HW := Lib.hid hw
    have HGl := Lib.hid hgl
    have HGB := Lib.hid (GoodBut.start hgood b (leafN b l))
    have HLV := Lib.hid (leavesOf_upd H b (leafN b l) hb)
    rw [← HP.out] at HGB HLV
    clear ht hw hgl HT3 HG3 HR HB3 hil hi1 hone hs1 hgood
    generalize upd H p (leafN b l) = K0 at HT HGB HLV
    obtain ⟨q, hq⟩ : ∃ q : Nat, q = p / 2 := ⟨_, rfl⟩
    have hq64 : q < 64 := by omega
    have HQ := Lib.hid (show (p : Int) / 2 = (q : Int) by omega)
    rw [← hq] at HGB
    clear hq
    go_upto_block 0 with (fail)
    rw [HQ.out]
    go_wp2
    go_loopw [10] (fun z wr => ∃ n K, z = .int .i64 ((n : Nat) : Int) ∧ n < 64 ∧ Tr wr g K ∧ GoodBut n K ∧ leavesOf K = (leavesOf H).set b (leafN b l) ∧ w.grownBy wr (some g) ∧ Gl wr) (fun z _ => (intOf z).toNat)
    case atStart => exact ⟨q, K0, rfl, hq64, HT.out, HGB.out, HLV.out, HW.out, HGl.out⟩
    case round =>
      clear HT HGB HLV HW HGl
      obtain ⟨n, K, rfl, hn, ht, hgb, hlv, hw, hgl⟩ := hrel
      have HT := Lib.hid ht
      have HGB := Lib.hid hgb
      have HLV := Lib.hid hlv
      have HW := Lib.hid hw
      have HGl := Lib.hid hgl
      clear ht hgb hlv hw hgl
      by_cases h0 : 1 ≤ n
      · obtain ⟨q, hq⟩ : ∃ q : Nat, q = n / 2 := ⟨_, rfl⟩
        have hq64 : q < n := by omega
        have HQ := Lib.hid (show (n : Int) / 2 = (q : Int) by omega)
        have HS := Lib.hid (HGB.out.step h0)
        rw [← hq] at HS
        clear hq
        go_wp2_with fail
        refine (sum_tree wr g n K HT.out h0 hn HGl.out).mono ?_
        rintro e w2 ⟨rfl, ht2, hgr⟩
        have HT2 := Lib.hid ht2
        have HW2 := Lib.hid (HW.out.trans hgr)
        have HG2 := Lib.hid (HGl.out.grown hgr HFR.out)
        clear ht2 hgr
        go_wp2
        go_roundw
        case rel => exact ⟨q, anew K n, by rw [← HQ.out], by omega, HT2.out, HS.out, by rw [leavesOf_anew K n hn]; exact HLV.out, HW2.out, HG2.out⟩
        case measure => simp [intOf]; omega
      · obtain rfl : n = 0 := by omega
        go_wp2
        go_ret
        exact ⟨K, rfl, HT.out, HGB.out.done, HLV.out, HW.out⟩
theorem set_out (w : World) (g : Nat) (H : Nat → List UInt8) (h : Tr w g H) (b : Int) (hb : b < 0 ∨ 64 ≤ b) (v : Value) (hv : ∃ A n c, v = .slice A n c) :
    Calls Tryd.prog 19 #[.pointer (some ⟨g, 0, none⟩), .int .i64 b, v] w fun e w' => e = .returned (.int .i64 2) ∧ Below w.heap.size w w' := by
  have hv2 := hv
  obtain ⟨A0, n0, c0, rfl⟩ := hv
  go_enter Tryd.func19, Tryd.ntmps19
  go_wp2_with fail
  refine (none_tree w h).mono ?_
  rintro e w1 ⟨rfl, rfl⟩
  go_wp2_with fail
  refine (leaf_no b hb _ w hv2).mono ?_
  rintro e w1 ⟨rfl, hb1⟩
  have hi := rowB_info zero32_length
  have h1 := rowB_one zero32
  have hs1 := rowB_size zero32
  rw [zero32_length] at hs1
  have hN := Blk.new w1 39 (rowB (List.replicate 32 0))
  have hb2 : Below w.heap.size w (w1.alloc (.cells (rowB (List.replicate 32 0)) 39)) := hb1.alloc hb1.size _
  have hZ : (rowB (List.replicate 32 0)).size = 32 := by rw [rowB_size, List.length_replicate]
  generalize hR : rowB zero32 = R at hi h1 hs1 ⊢
  have hth : (w1.alloc (.cells (rowB (List.replicate 32 0)) 39)).there w1.heap.size 0 R.size := by rw [hs1, ← hZ]; exact hN.there
  have hbE := Below.only hb2 (grown_setCells w1.heap.size R.toList 0 _) hb1.size hb2.size
  go_upto_region 4 with (refine wpList_store_mid rfl 39 _ _ rfl w1.heap.size 0 R rfl rfl hth hi h1 ?_)
  change Code.wp _ _ _ _ ((w1.alloc (.cells (rowB (List.replicate 32 0)) 39)).setCells w1.heap.size 0 R.toList)
  generalize (w1.alloc (.cells (rowB (List.replicate 32 0)) 39)).setCells w1.heap.size 0 R.toList = W3 at hbE ⊢
  clear hR
  go_wp2
  go_ret
  exact ⟨rfl, hbE⟩
theorem set_no (w : World) (p : Value) (h : NoTr w p) (b : Int) (v : Value) (hv : ∃ A n c, v = .slice A n c) :
    Calls Tryd.prog 19 #[p, .int .i64 b, v] w fun e w' => e = .returned (.int .i64 1) ∧ w = w' := by
  obtain ⟨A0, n0, c0, rfl⟩ := hv
  have hsh : ∃ q, p = .pointer q := by rcases h with rfl | ⟨g, rfl, _⟩ <;> exact ⟨_, rfl⟩
  obtain ⟨q, rfl⟩ := hsh
  go_enter Tryd.func19, Tryd.ntmps19
  go_wp2_with fail
  refine (none_no w _ h).mono ?_
  rintro e w1 ⟨rfl, rfl⟩
  go_wp2
  go_ret
  exact ⟨rfl, rfl⟩
end Go.Proofs.YtdbhffkfkklehaaDoor

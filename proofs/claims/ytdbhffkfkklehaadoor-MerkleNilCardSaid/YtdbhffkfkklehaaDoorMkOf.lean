/-
  The walks of Of and of New.
-/
import Derived.Test.YtdbhffkfkklehaaDoorMkCopy
import Derived.Great.Walk
namespace Go.Proofs.YtdbhffkfkklehaaDoor
open Go.RowKit
set_option linter.unusedVariables false
set_option linter.unusedSimpArgs false
set_option maxRecDepth 100000

/-- A slice of one hash, built. -/
theorem built_one (C : List Value) (hC : C.length = 32) : Tryd.prog.builtSlice 39 1 [(0, .agg C.toArray)] = some C.toArray := by
  obtain ⟨i0, hi, hz0, hz1, hz2⟩ := info_parts info_hash
  unfold Program.builtSlice
  simp only [hi, hz0]
  rw [hz1, if_neg (by decide)]
  generalize hZ : (Array.range (1 * 32)).map ((Value.cells (.agg (rowB (List.replicate 32 0))))[· % (Value.cells (.agg (rowB (List.replicate 32 0)))).size]!) = Z
  have hzs : Z.size = 32 := by rw [← hZ]; simp
  rw [fill_step _ _ 0 _ _ 0 32 rfl (by simp [Value.cells, hC]) (by rw [hzs]; omega)]
  show some _ = some _
  congr 1
  rw [show Value.cells (.agg C.toArray) = C.toArray from rfl, ← Array.foldl_toList, Array.toList_zipIdx]
  apply Array.ext_getElem?
  intro i
  have := fill_fold 0 C 0 Z (by omega) i
  rw [this, hC]
  by_cases hi : i < 32
  · rw [if_pos (by omega), List.getElem?_toArray]; congr 1
  · rw [if_neg (by omega), Array.getElem?_eq_none (by omega), Array.getElem?_eq_none (by simp [hC]; omega)]

/-- These leaves, and what is above them as it was. -/
def withL (H : Nat → List UInt8) (L : List (List UInt8)) : Nat → List UInt8 := fun n => if 64 ≤ n then L.getD (n - 64) zero32 else H n
theorem withL_leaves (H : Nat → List UInt8) (L : List (List UInt8)) (hl : L.length = 64) : leavesOf (withL H L) = L := by
  apply List.ext_getElem (by rw [leavesOf_length, hl])
  intro i h1 h2
  rw [leavesOf_get, withL, if_pos (by omega), Nat.add_sub_cancel_left, List.getD_eq_getElem?_getD, List.getElem?_eq_getElem h2]
  rfl
theorem withL_len {H : Nat → List UInt8} {L : List (List UInt8)} (h : Len H) (ha : All32 L) : Len (withL H L) := by
  intro n hn
  unfold withL
  split
  · rw [List.getD_eq_getElem?_getD]
    rcases e : L[n - 64]? with _ | x
    · rfl
    · exact ha x (List.mem_of_getElem? e)
  · exact h n hn
theorem Tr.copied {w : World} {g : Nat} {H : Nat → List UInt8} (h : Tr w g H) {L : List (List UInt8)} (ha : All32 L) (hl : L.length = 64) : Tr (w.setCells g 2049 (hcs L)) g (withL H L) := by
  have hlen := withL_len h.len ha
  refine ⟨hlen, ?_⟩
  have hcl := hcs_length L ha
  obtain ⟨ds, h1, h2, h3⟩ := Blk.setAll (t := 43) (hcs L) 2049 w _ h.row
  have e : ds = treeRow true (withL H L) := by
    apply Array.ext_getElem?
    intro i
    rw [treeRow_size _ _ h.len] at h2 h3
    by_cases hi : i < 4097
    · rw [h3 i hi, hcl, hl]
      rcases Nat.eq_zero_or_pos i with rfl | hp
      · rw [if_neg (by omega)]; rfl
      · have hq : (i - 1) / 32 < 128 := by omega
        have e : i = 1 + (i - 1) / 32 * 32 + (i - 1) % 32 := by omega
        have hr : (i - 1) % 32 < 32 := Nat.mod_lt _ (by decide)
        generalize (i - 1) / 32 = q at hq e
        generalize (i - 1) % 32 = r at hr e
        subst e
        rw [treeRow_get _ _ hlen q r hq hr, treeRow_get _ _ h.len q r hq hr]
        by_cases c : 64 ≤ q
        · have hg := hcs_get L ha (q - 64) (by omega) r hr
          rw [if_pos (by omega), show 1 + q * 32 + r - 2049 = (q - 64) * 32 + r by omega, hg, withL, if_pos c, List.getD_eq_getElem?_getD, List.getElem?_eq_getElem (show q - 64 < L.length by omega)]
          rfl
        · rw [if_neg (by omega), withL, if_neg c]
    · rw [Array.getElem?_eq_none (by omega), Array.getElem?_eq_none (by rw [treeRow_size _ _ hlen]; omega)]
  rw [← e]; exact h1

theorem of_no (w : World) (v : Value) (L : List (List UInt8)) (h : Sh w v L) (hl : L.length ≠ 64) :
    Calls Tryd.prog 16 #[v] w fun e w' => e = .returned (.tuple #[.pointer none, .int .i64 2]) ∧ w = w' := by
  obtain ⟨A, n, c, rfl⟩ := h.shape
  have hn := h.len
  subst hn
  have hne : ((L.length : Int) != 64) = true := by rw [bne_iff_ne]; omega
  go_enter Tryd.func16, Tryd.ntmps16
  go_wp2
  go_ret2
  exact ⟨rfl, rfl⟩

/-- What Of answers: a new tree with these leaves, all as said. -/
def OfEnd (L : List (List UInt8)) (w : World) (e : Ending) (w' : World) : Prop :=
  ∃ g K, e = .returned (.tuple #[.pointer (some ⟨g, 0, none⟩), .int .i64 0]) ∧ w.heap.size ≤ g ∧ Tr w' g K ∧ Good K ∧ leavesOf K = L ∧ Below w.heap.size w w'

set_option maxHeartbeats 4000000 in
theorem of_any (w : World) (v : Value) (L : List (List UInt8)) (h : Sh w v L) (hl : L.length = 64) (hg : Gl w) :
    Calls Tryd.prog 16 #[v] w (OfEnd L w) := by
  obtain ⟨i0, hi, hz0, hz1, hz2⟩ := info_parts info_hash
  have HS := Lib.hid h
  obtain ⟨A, n, c, rfl⟩ := h.shape
  have hn := h.len
  rw [hl] at hn
  subst hn
  have HB := Lib.hid built_new
  have hT0 : Tr (w.alloc (.cells (treeRow true fun _ => zero32) 43)) w.heap.size (fun _ => zero32) := ⟨fun n _ => rfl, Blk.new w _ _⟩
  have hS0 := h.alloc (.cells (treeRow true fun _ => zero32) 43)
  have hb0 : Below w.heap.size w (w.alloc (.cells (treeRow true fun _ => zero32) 43)) := (Below.refl _ _).alloc (Nat.le_refl _) _
  clear h
  generalize hR : (treeRow true fun _ => zero32) = R at HB hT0 hS0 hb0
  have HR := Lib.hid hR
  clear hR
  have hth := hT0.there 2049 (64 * 32) (by decide)
  have HT1 := Lib.hid (hT0.copied HS.out.all hl)
  have hb1 : Below w.heap.size w ((w.alloc (.cells R 43)).setCells w.heap.size 2049 (hcs L)) := Below.only hb0 (grown_setCells _ _ _ _) (Nat.le_refl _) hb0.size
  have HL := Lib.hid (withL_leaves (fun _ => zero32) L hl)
  have Hl := Lib.hid hl
  clear hT0
  go_enter Tryd.func16, Tryd.ntmps16
  go_upto_region 4 with (refine wpList_build_to rfl 43 _ rfl R ?hbc ?_; case hbc => exact Eq.trans (by kernel_rfl) HB.out)
  go_upto_region 5 with (refine wpList_copy_hs _ rfl _ _ 27 rfl i0 Tryd.underlying27 hi hz1 w.heap.size 2049 64 64 rfl (.slice A 64 c) L rfl hS0 hl (by decide) hth ?_)
  change Code.wp _ _ _ _ ((w.alloc (.cells R 43)).setCells w.heap.size 2049 (hcs L))
  generalize (w.alloc (.cells R 43)).setCells w.heap.size 2049 (hcs L) = W at HT1 hb1 ⊢
  clear hth hS0 hb0 HB
  obtain ⟨K0, hK0⟩ : ∃ K0, withL (fun _ => zero32) L = K0 := ⟨_, rfl⟩
  rw [hK0] at HT1 HL
  clear hK0
  go_wp2
  go_loopw [5] (fun z wr => ∃ n K, z = .int .i64 ((n : Nat) : Int) ∧ n ≤ 63 ∧ Tr wr w.heap.size K ∧ leavesOf K = L ∧ (∀ i, n < i → i < 64 → Ok K i) ∧ Below w.heap.size w wr) (fun z _ => (intOf z).toNat)
  case atStart => exact ⟨63, K0, rfl, by decide, HT1.out, HL.out, fun i h1 h2 => absurd h2 (by omega), hb1⟩
  case round =>
    clear HT1 HL hb1
    obtain ⟨n, K, rfl, hn, ht, hLv, hok, hb⟩ := hrel
    have HT := Lib.hid ht
    have HLv := Lib.hid hLv
    have HOk := Lib.hid hok
    have HBw := Lib.hid hb
    clear ht hLv hok hb
    by_cases h0 : 1 ≤ n
    · obtain ⟨m, rfl⟩ : ∃ m, n = m + 1 := ⟨n - 1, by omega⟩
      go_wp2_with fail
      refine (sum_tree wr w.heap.size (m + 1) K HT.out (by omega) (by omega) (hg.below HBw.out)).mono ?_
      rintro e w2 ⟨rfl, ht2, hgr⟩
      have HT2 := Lib.hid ht2
      have HB2 := Lib.hid (Below.only HBw.out hgr (Nat.le_refl _) HBw.out.size)
      clear ht2 hgr
      go_wp2
      go_roundw
      case rel =>
        refine ⟨m, anew K (m + 1), by go_num, by omega, HT2.out, by rw [leavesOf_anew K (m + 1) (by omega)]; exact HLv.out, ?_, HB2.out⟩
        intro i hi1 hi2
        by_cases e : i = m + 1
        · subst e; exact anew_ok K (m + 1) (by omega)
        · exact anew_keeps K (m + 1) i (HOk.out i (by omega) hi2) e (by omega) (by omega)
      case measure => simp [intOf]
    · obtain rfl : n = 0 := by omega
      go_wp2
      go_ret2
      exact ⟨w.heap.size, K, rfl, Nat.le_refl _, HT.out, fun i h1 h2 => HOk.out i (by omega) h2, HLv.out, HBw.out⟩
end Go.Proofs.YtdbhffkfkklehaaDoor

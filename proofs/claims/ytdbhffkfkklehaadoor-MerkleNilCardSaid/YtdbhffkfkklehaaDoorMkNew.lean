/-
  The walk of New.
-/
import Derived.Test.YtdbhffkfkklehaaDoorMkOf
namespace Go.Proofs.YtdbhffkfkklehaaDoor
open Go.RowKit
set_option linter.unusedVariables false
set_option linter.unusedSimpArgs false
set_option maxRecDepth 100000

/-- The leaves of empty buckets. -/
def emptyL (k : Nat) : List (List UInt8) := (List.range k).map fun i => leafN i []
theorem emptyL_succ (k : Nat) : emptyL (k + 1) = emptyL k ++ [leafN k []] := by simp [emptyL, List.range_succ]
theorem emptyL_length (k : Nat) : (emptyL k).length = k := by simp [emptyL]
theorem Sh.one (w : World) {x : List UInt8} (hx : x.length = 32) : Sh (w.alloc (.cells (hcells x).toArray 39)) (.slice (some ⟨w.heap.size, 0, none⟩) 1 1) [x] := by
  refine ⟨All32.one hx, _, 1, rfl, Nat.le_refl _, fun _ => ⟨_, 0, rfl, fun j hj => ?_⟩⟩
  have h0 : j = 0 := by simpa using hj
  subst h0
  intro i v hv
  rw [(Blk.new w 39 (hcells x).toArray).cell]
  simp only [Nat.zero_mul, Nat.zero_add, List.getElem?_toArray]
  exact hv
/-- What New answers. -/
def NewEnd (w : World) (e : Ending) (w' : World) : Prop :=
  ∃ g K, e = .returned (.pointer (some ⟨g, 0, none⟩)) ∧ w.heap.size ≤ g ∧ Tr w' g K ∧ Good K ∧ leavesOf K = emptyL 64 ∧ Below w.heap.size w w'

set_option maxHeartbeats 4000000 in
theorem new_any (w : World) (hg : Gl w) : Calls Tryd.prog 9 #[] w (NewEnd w) := by
  obtain ⟨i0, hi, hz0, hz1, hz2⟩ := info_parts info_hash
  go_enter Tryd.func9, Tryd.ntmps9
  go_wp2
  go_loopw [1, 7] (fun x z wr => ∃ k : Nat, z = .int .i64 (k : Int) ∧ k ≤ 64 ∧ OwnH wr w.heap.size x (emptyL k) ∧ Below w.heap.size w wr) (fun _ z _ => 64 - (intOf z).toNat)
  case atStart => exact ⟨0, rfl, by decide, OwnH.nil, Below.refl _ _⟩
  case round =>
    obtain ⟨k, rfl, hk, ho, hb⟩ := hrel
    have HO := Lib.hid ho
    have HB := Lib.hid hb
    clear ho hb
    have hsh := HO.out.sh.shape
    obtain ⟨A1, n1, c1, rfl⟩ := hsh
    by_cases hlt : k < 64
    · go_wp2_with fail
      refine (leaf_any k hlt _ [] wr (Sl.nil none 0) (by decide) (hg.below HB.out)).mono ?_
      rintro e w1 ⟨rfl, hb1⟩
      have hE := emptyL_succ k
      have h32 := leafN_length k []
      have HE := Lib.hid hE
      have H32 := Lib.hid h32
      clear hE h32
      obtain ⟨hil, hi1, hone, hs1⟩ := hc_facts H32.out
      rw [← hcells_arr]
      have HO1 := Lib.hid (HO.out.below hb1)
      have HB1 := Lib.hid (HB.out.trans (hb1.mono HB.out.size))
      clear hb1
      have hN := Blk.new w1 39 (rowB (List.replicate 32 0))
      have HO2 := Lib.hid (HO1.out.alloc (.cells (rowB (List.replicate 32 0)) 39))
      have hb2 : Below w.heap.size w (w1.alloc (.cells (rowB (List.replicate 32 0)) 39)) := HB1.out.alloc HB1.out.size _
      have hZ : (rowB (List.replicate 32 0)).size = 32 := by rw [rowB_size, List.length_replicate]
      have hC32 : (hcells (leafN k [])).length = 32 := by rw [hcells_length, H32.out]
      have HCE := Lib.hid (show hcells (leafN k []) = hcells (leafN k []) from rfl)
      generalize hCC : hcells (leafN k []) = C at hil hi1 hone hs1 hC32
      have HC := Lib.hid hCC
      clear hCC HCE
      have hth : (w1.alloc (.cells (rowB (List.replicate 32 0)) 39)).there w1.heap.size 0 C.toArray.size := by rw [hs1, ← hZ]; exact hN.there
      have hE3 := hN.setRow (ds := C.toArray) (by rw [hs1, hZ])
      have hgr := grown_setCells w1.heap.size C.toArray.toList 0 (w1.alloc (.cells (rowB (List.replicate 32 0)) 39))
      have HO3 := Lib.hid (HO2.out.grown hgr (fun e => by have := (HO1.out.lt _ e).2; omega))
      have hb3 := Below.only hb2 hgr HB1.out.size hb2.size
      have hR : ((w1.alloc (.cells (rowB (List.replicate 32 0)) 39)).setCells w1.heap.size 0 C.toArray.toList).rangeAt w1.heap.size 0 C := fun i v hv => by rw [Nat.zero_add, hE3.cell i]; simpa using hv
      go_upto_region 6 with (refine wpList_store_mid rfl 39 _ _ rfl w1.heap.size 0 C.toArray rfl rfl hth hi1 hone ?_)
      change Code.wp _ _ _ _ ((w1.alloc (.cells (rowB (List.replicate 32 0)) 39)).setCells w1.heap.size 0 C.toArray.toList)
      have hg3 : w1.heap.size < ((w1.alloc (.cells (rowB (List.replicate 32 0)) 39)).setCells w1.heap.size 0 C.toArray.toList).heap.size := hE3.lt
      clear hth hE3 hgr HO2 hb2 hN hZ HO
      generalize (w1.alloc (.cells (rowB (List.replicate 32 0)) 39)).setCells w1.heap.size 0 C.toArray.toList = W3 at HO3 hb3 hR hg3 ⊢
      have HBS := Lib.hid (built_one C hC32)
      have HO4 := Lib.hid (HO3.out.alloc (.cells C.toArray 39))
      have hb4 : Below w.heap.size w (W3.alloc (.cells C.toArray 39)) := hb3.alloc hb3.size _
      have HS4 := Lib.hid (show Sh (W3.alloc (.cells C.toArray 39)) (.slice (some ⟨W3.heap.size, 0, none⟩) 1 1) [leafN k []] by rw [← HC.out]; exact Sh.one W3 H32.out)
      have hlen : (emptyL k).length + [leafN k []].length ≤ 1000000 := by rw [emptyL_length]; simp; omega
      go_upto_region 7 with (first | (refine wpList_load_mid rfl 39 _ rfl w1.heap.size 0 rfl C _ hR Tryd.underlying39 rfl hil ?_) | (refine Great.wpList_buildSliceTo rfl 27 39 1 _ rfl W3.heap.size rfl _ rfl Tryd.underlying27 C.toArray ?hbs ?_; case hbs => exact Eq.trans (by kernel_rfl) HBS.out) | (at_builtin; refine wpList_append_hs _ rfl _ _ 27 rfl w.heap.size i0 Tryd.underlying27 hi hz0 hz1 hz2 _ (emptyL k) rfl HO4.out _ [leafN k []] rfl HS4.out hlen hb4.size ?_))
      intro v5 w5 ho5 hb5
      have HO5 := Lib.hid (show OwnH w5 w.heap.size v5 (emptyL (k + 1)) by rw [HE.out]; exact ho5)
      have HB5 := Lib.hid (hb4.trans hb5)
      clear ho5 hb5 hR hil hi1 hone hs1 hC32 hb4 hb3 hlen
      go_wp2
      go_roundw
      case rel => exact ⟨k + 1, by go_num, by omega, HO5.out, HB5.out⟩
      case measure => simp [intOf]; omega
    · obtain rfl : k = 64 := by omega
      go_wp2_with fail
      refine (of_any wr _ (emptyL 64) HO.out.sh (emptyL_length 64) (hg.below HB.out)).mono ?_
      rintro e w2 ⟨g, K, rfl, hgg, ht, hgood, hlv, hb2⟩
      have HT := Lib.hid ht
      have HB2 := Lib.hid (HB.out.trans (hb2.mono HB.out.size))
      have HLV := Lib.hid hlv
      have HG := Lib.hid hgood
      have HGG := Lib.hid (Nat.le_trans HB.out.size hgg)
      clear ht hb2 hlv hgood hgg
      go_wp2
      go_ret
      exact ⟨g, K, rfl, HGG.out, HT.out, HG.out, HLV.out, HB2.out⟩
end Go.Proofs.YtdbhffkfkklehaaDoor

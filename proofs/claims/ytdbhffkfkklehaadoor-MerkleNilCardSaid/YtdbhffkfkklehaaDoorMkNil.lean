/-
  The law MerkleNil.
-/
import Derived.Test.YtdbhffkfkklehaaDoorMkKnown
namespace Go.Proofs.YtdbhffkfkklehaaDoor
open Go.RowKit
set_option linter.unusedVariables false
set_option linter.unusedSimpArgs false
set_option maxRecDepth 100000

theorem lit_zero : rowB zero32 = #[.int .u8 0, .int .u8 0, .int .u8 0, .int .u8 0, .int .u8 0, .int .u8 0, .int .u8 0, .int .u8 0, .int .u8 0, .int .u8 0, .int .u8 0, .int .u8 0, .int .u8 0, .int .u8 0, .int .u8 0, .int .u8 0, .int .u8 0, .int .u8 0, .int .u8 0, .int .u8 0, .int .u8 0, .int .u8 0, .int .u8 0, .int .u8 0, .int .u8 0, .int .u8 0, .int .u8 0, .int .u8 0, .int .u8 0, .int .u8 0, .int .u8 0, .int .u8 0] := rfl
theorem NoTr.ptr {w : World} {p : Value} (h : NoTr w p) : ∃ q, p = .pointer q := by
  rcases h with rfl | ⟨g, rfl, _⟩
  · exact ⟨_, rfl⟩
  · exact ⟨_, rfl⟩

set_option maxHeartbeats 2000000 in
theorem nothing_any (w : World) (p : Value) (hp : NoTr w p) (hg : Gl w) : Calls Tryd.prog 18 #[p] w fun e w' => e = .returned (.bool true) ∧ Below w.heap.size w w' := by
  have he := fun w => hash_self zero32 zero32_length w
  rw [lit_zero] at he
  have HP := Lib.hid hp
  obtain ⟨q, rfl⟩ := hp.ptr
  clear hp
  go_enter Tryd.func18, Tryd.ntmps18
  go_wp2_with fail
  refine (new_any w hg).mono ?_
  rintro e w1 ⟨g, K, rfl, hgg, ht, hgood, hlv, hb1⟩
  have HT := Lib.hid ht
  have HB := Lib.hid hb1
  replace HP := Lib.hid (HP.out.below hb1)
  clear hgg ht hgood hlv hb1
  go_wp2_with fail
  refine (node_no w1 _ HP.out 1).mono ?_
  rintro e w8 ⟨rfl, hb8⟩
  replace HT := Lib.hid (HT.out.past hb8)
  replace HB := Lib.hid (HB.out.trans (hb8.mono HB.out.size))
  replace HP := Lib.hid (HP.out.below hb8)
  clear hb8
  have hi := rowB_info zero32_length
  have h1 := rowB_one zero32
  have hs1 := rowB_size zero32
  rw [zero32_length] at hs1
  have hN := Blk.new w8 39 (rowB (List.replicate 32 0))
  have hb9 : Below w8.heap.size w8 (w8.alloc (.cells (rowB (List.replicate 32 0)) 39)) := (Below.refl _ _).alloc (Nat.le_refl _) _
  have hZ : (rowB (List.replicate 32 0)).size = 32 := by rw [rowB_size, List.length_replicate]
  generalize hR : rowB zero32 = R at hi h1 hs1 ⊢
  clear hR
  have hth : (w8.alloc (.cells (rowB (List.replicate 32 0)) 39)).there w8.heap.size 0 R.size := by rw [hs1, ← hZ]; exact hN.there
  have hgr := grown_setCells w8.heap.size R.toList 0 (w8.alloc (.cells (rowB (List.replicate 32 0)) 39))
  have HBE := Lib.hid (Below.only hb9 hgr (Nat.le_refl _) hb9.size)
  clear hN hb9 hgr hZ hs1
  go_upto_region 3 with (refine wpList_store_mid rfl 39 _ _ rfl w8.heap.size 0 R rfl rfl hth hi h1 ?_)
  change Code.wp _ _ _ _ ((w8.alloc (.cells (rowB (List.replicate 32 0)) 39)).setCells w8.heap.size 0 R.toList)
  generalize (w8.alloc (.cells (rowB (List.replicate 32 0)) 39)).setCells w8.heap.size 0 R.toList = w9 at HBE ⊢
  clear hth hi h1
  replace HT := Lib.hid (HT.out.past HBE.out)
  replace HB := Lib.hid (HB.out.trans (HBE.out.mono HB.out.size))
  replace HP := Lib.hid (HP.out.below HBE.out)
  clear HBE
  go_wp2_with fail
  refine (diff_no w9 _ _ HP.out ⟨_, rfl⟩).mono ?_
  rintro e w10 ⟨rfl, hb⟩
  replace HT := Lib.hid (HT.out.past hb)
  replace HB := Lib.hid (HB.out.trans (hb.mono HB.out.size))
  replace HP := Lib.hid (HP.out.below hb)
  clear hb
  go_wp2_with fail
  refine (diff_no2 w10 _ _ _ HT.out HP.out).mono ?_
  rintro e w11 ⟨rfl, hb⟩
  replace HT := Lib.hid (HT.out.past hb)
  replace HB := Lib.hid (HB.out.trans (hb.mono HB.out.size))
  replace HP := Lib.hid (HP.out.below hb)
  clear hb
  go_wp2_with fail
  refine (set_no w11 _ HP.out 0 _ ⟨none, 0, 0, rfl⟩).mono ?_
  rintro e w12 ⟨rfl, rfl⟩
  go_wp2_with (go_at_call 17; refine (num_any _ _).mono ?_; rintro e w' ⟨rfl, rfl⟩)
  refine (root_no w11 _ HP.out).mono ?_
  rintro e w12 ⟨rfl, hb⟩
  rw [lit_zero]
  replace HT := Lib.hid (HT.out.past hb)
  replace HB := Lib.hid (HB.out.trans (hb.mono HB.out.size))
  replace HP := Lib.hid (HP.out.below hb)
  clear hb
  go_wp2_with (go_at_call 17; refine (num_any _ _).mono ?_; rintro e w' ⟨rfl, rfl⟩)
  refine (leaves_no w12 _ HP.out).mono ?_
  rintro e w13 ⟨rfl, rfl⟩
  go_wp2_with (go_at_call 17; refine (num_any _ _).mono ?_; rintro e w' ⟨rfl, rfl⟩)
  refine (copy_no w12 _ HP.out).mono ?_
  rintro e w13 ⟨rfl, rfl⟩
  go_wp2_with (go_at_call 17; refine (num_any _ _).mono ?_; rintro e w' ⟨rfl, rfl⟩)
  refine (same_no w12 _ _ HP.out (.inl rfl)).mono ?_
  rintro e w13 ⟨rfl, rfl⟩
  go_wp2_with fail
  refine (same_one w12 _ g K HP.out HT.out).mono ?_
  rintro e w13 ⟨rfl, rfl⟩
  go_wp2_with fail
  refine (same_two w12 _ g K HP.out HT.out).mono ?_
  rintro e w13 ⟨rfl, rfl⟩
  go_wp2
  go_ret
  exact ⟨rfl, HB.out⟩

theorem zero_run (w : World) : (zeroValue 43).run Tryd.prog w = .ok (.agg zeroT) w := by
  obtain ⟨it, hi, hz⟩ := Option.map_eq_some_iff.1 tree_zero
  simp [zeroValue, typeInfo, hi, hz]
set_option maxHeartbeats 2000000 in
theorem merkleNil_any (w : World) (hg : Gl w) : Calls Tryd.prog 5 #[] w fun e w' => e = .returned (.bool true) ∧ Below w.heap.size w w' := by
  have hzv := zero_run
  have HF := Lib.hid (show zeroT[0]? = some (.bool false) from rfl)
  generalize zeroT = R at hzv HF
  go_enter Tryd.func5, Tryd.ntmps5
  go_wp2_with fail
  refine (nothing_any w _ (.inl rfl) hg).mono ?_
  rintro e w1 ⟨rfl, hb⟩
  have HB := Lib.hid hb
  clear hb
  go_wp2_with fail
  have hal : Below w1.heap.size w1 (w1.alloc (.cells R 43)) := (Below.refl _ _).alloc (Nat.le_refl _) _
  have hno : NoTr (w1.alloc (.cells R 43)) (.pointer (some ⟨w1.heap.size, 0, none⟩)) := .inr ⟨_, rfl, by rw [(Blk.new w1 43 R).cell]; exact HF.out⟩
  refine (nothing_any _ _ hno (hg.below (HB.out.trans (hal.mono HB.out.size)))).mono ?_
  rintro e w2 ⟨rfl, hb2⟩
  have HB2 := Lib.hid (HB.out.trans ((hal.trans (hb2.mono hal.size)).mono HB.out.size))
  clear hal hno hb2 hzv
  go_wp2_with fail
  refine (known_any w2 (hg.below HB2.out)).mono ?_
  rintro e w3 ⟨rfl, hb3⟩
  have HB3 := Lib.hid (HB2.out.trans (hb3.mono HB2.out.size))
  clear hb3
  go_wp2
  go_ret
  exact ⟨rfl, HB3.out⟩
end Go.Proofs.YtdbhffkfkklehaaDoor

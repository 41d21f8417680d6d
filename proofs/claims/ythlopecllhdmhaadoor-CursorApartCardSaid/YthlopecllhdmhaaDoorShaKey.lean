/-
  The walks of sha.masked and sha.keyOf.
-/
import Derived.Test.YthlopecllhdmhaaDoorShaSumW
import Derived.Laws.CopyOwn
namespace Go.Proofs.YthlopecllhdmhaaDoor
open Go.RowKit
set_option linter.unusedVariables false
set_option linter.unusedSimpArgs false

theorem info_b64 : (Tryd.prog.info? 68).map (·.size) = some 64 := by kernel_rfl
theorem rowB_info64 {l : List UInt8} (h : l.length = 64) : (Tryd.prog.info? 68).map (·.size) = some (rowB l).size := by rw [info_b64, rowB_size, h]
/-- The first k bytes masked. -/
def halfM (m : UInt8) (l : List UInt8) (k : Nat) : List UInt8 := maskN m (l.take k) ++ l.drop k
theorem halfM_zero (m : UInt8) (l : List UInt8) : halfM m l 0 = l := by simp [halfM, maskN]
theorem halfM_done (m : UInt8) (l : List UInt8) (n : Nat) (h : l.length = n) : halfM m l n = maskN m l := by simp [halfM, ← h]
theorem halfM_length (m : UInt8) (l : List UInt8) (k : Nat) : (halfM m l k).length = l.length := by simp [halfM, maskN]; omega
theorem halfM_get (m : UInt8) (l : List UInt8) (k : Nat) (h : k < l.length) : (halfM m l k)[k]'(by rw [halfM_length]; exact h) = l[k] := by
  unfold halfM
  rw [List.getElem_append_right (by simp [maskN]; omega), List.getElem_drop]
  congr 1
  simp [maskN]; omega
theorem halfM_set (m : UInt8) (l : List UInt8) (k : Nat) (h : k < l.length) : (halfM m l k).set k (l[k] ^^^ m) = halfM m l (k + 1) := by
  unfold halfM
  have e : (maskN m (l.take k)).length = k := by simp [maskN]; omega
  rw [List.set_append_right _ _ (by omega), e, Nat.sub_self, List.drop_eq_getElem_cons h, List.set_cons_zero, take_snoc l k h, show maskN m (l.take k ++ [l[k]]) = maskN m (l.take k) ++ [l[k] ^^^ m] by unfold maskN; rw [List.map_append]; rfl, List.append_assoc]
  rfl
theorem xor_spell (c m : UInt8) : bits .xor .u8 (c.toNat : Int) (m.toNat : Int) = ((c ^^^ m).toNat : Int) := by
  rw [u8_xor_nat _ _ c.toNat_lt m.toNat_lt, UInt8.toNat_xor]
theorem maskN_length (m : UInt8) (l : List UInt8) : (maskN m l).length = l.length := by simp [maskN]

set_option maxHeartbeats 400000 in
theorem masked_any (l : List UInt8) (m : UInt8) (w : World) (hl : l.length = 64) :
    Calls Tryd.prog 42 #[.agg (rowB l), .int .u8 (m.toNat : Int)] w fun e w' => e = .returned (.slice (some ⟨w.heap.size, 0, none⟩) 64 64) ∧ Blk w' w.heap.size 68 (rowB (maskN m l)) ∧ Below w.heap.size w w' := by
  have hi := rowB_info64 hl
  have h1 := rowB_one l
  have hz := rowB_size l
  have HR := Lib.hid (show rowB l = rowB (halfM m l 0) by rw [halfM_zero])
  have hB := Blk.new w 68 (rowB l)
  have hb : Below w.heap.size w (w.alloc (.cells (rowB l) 68)) := (Below.refl _ _).alloc (Nat.le_refl _) _
  generalize hRR : rowB l = R at hi h1 hz hB hb HR
  have ER := Lib.hid hRR
  clear hRR
  go_enter Tryd.func42, Tryd.ntmps42
  go_wp2
  change Code.wp _ _ _ _ (w.alloc (.cells R 68))
  generalize w.alloc (.cells R 68) = W at hB hb ⊢
  rw [HR.out] at hB
  go_loopw [6] (fun z wr => ∃ k : Nat, k ≤ 64 ∧ z = .int .i64 (k : Int) ∧ Blk wr w.heap.size 68 (rowB (halfM m l k)) ∧ Below w.heap.size w wr) (fun z _ => 64 - (intOf z).toNat)
  case atStart => exact ⟨0, Nat.zero_le _, rfl, hB, hb⟩
  case round =>
    clear hB hb
    obtain ⟨k, hk, rfl, hB, hb⟩ := hrel
    by_cases hlt : k < 64
    · have hlk : k < l.length := by omega
      have hc : wr.cell? ⟨w.heap.size, k, none⟩ = some (.int .u8 (l[k].toNat : Int)) := by
        rw [hB.cell, rowB_get _ _ (by rw [halfM_length]; exact hlk), halfM_get m l k hlk]
      have hfr := hB.frozen k
      have HS := Lib.hid (halfM_set m l k hlk)
      have HX := Lib.hid (xor_spell l[k] m)
      generalize l[k] = c at hc HS HX
      clear hlk
      go_wp2
      rw [HX.out]
      go_roundw
      case rel => exact ⟨k + 1, by omega, by go_num, by rw [← HS.out, ← rowB_set _ _ _ _ rfl]; exact hB.set_ _ _, hb.setCell (Nat.le_refl _) _⟩
      case measure => simp [intOf]; omega
    · obtain rfl : k = 64 := by omega
      rw [halfM_done m l 64 hl] at hB
      go_wp2
      go_ret
      exact ⟨rfl, hB, hb⟩

theorem size_u8 : (Tryd.prog.info? 5).map (·.size) = some 1 := by kernel_rfl
/-- A secret, or its hash. -/
def shortN (s : List UInt8) : List UInt8 := if s.length > 64 then shaN s else s
theorem shortN_le (s : List UInt8) : (shortN s).length ≤ 64 := by
  unfold shortN
  split
  · rw [shaN_length]; decide
  · omega
theorem keyN_short (s : List UInt8) : keyN s = shortN s ++ List.replicate (64 - (shortN s).length) 0 := by
  unfold keyN shortN
  split
  · rw [shaN_length]
  · rfl
theorem shortN_long (s : List UInt8) (h : 64 < s.length) : shortN s = shaN s := if_pos h
theorem shortN_self (s : List UInt8) (h : s.length ≤ 64) : shortN s = s := if_neg (by omega)
theorem splice_zeros (s : List UInt8) (n : Nat) (h : s.length ≤ n) : (splice ((List.replicate n (0 : UInt8)).map bv) 0 (s.map bv)).toArray = rowB (s ++ List.replicate (n - s.length) 0) := by
  simp [splice, rowB]
theorem Blk.bytes {w : World} {g : Nat} {t : TypeId} {l : List UInt8} (h : Blk w g t (rowB l)) (n c : Nat) (hn : n = l.length) (hc : n ≤ c) : Sl w (.slice (some ⟨g, 0, none⟩) n c) l := by
  subst hn
  refine ⟨_, _, rfl, hc, fun _ => ⟨_, 0, rfl, fun j hj => ?_⟩⟩
  rw [Nat.zero_add, h.cell, rowB_get _ _ hj]
/-- What a slice holds, as copy asks for it. -/
theorem Sl.cells {w : World} {A : Option Addr} {n c : Nat} {l : List UInt8} (h : Sl w (.slice A n c) l) (hp : 0 < l.length) : ∃ ad, A = some ad ∧ ∀ j v, (l.map bv)[j]? = some v → w.cell? (ad.add j) = some v := by
  obtain ⟨A2, c2, e, _, ha⟩ := h
  injection e with e1 e2 e3
  subst e1
  obtain ⟨b, o, rfl, hx⟩ := ha hp
  refine ⟨_, rfl, fun j u hu => ?_⟩
  have hj : j < l.length := by
    have := (List.getElem?_eq_some_iff.1 hu).1
    simpa using this
  rw [add_plain, hx j hj, ← hu]
  simp [List.getElem?_eq_getElem hj, bv]
theorem bv_one (l : List UInt8) : ∀ v ∈ l.map bv, v.oneCell' = true := by
  intro v hv
  obtain ⟨c, _, rfl⟩ := List.mem_map.1 hv
  rfl

set_option maxHeartbeats 800000 in
theorem keyOf_any (v : Value) (l : List UInt8) (w : World) (hs : Sl w v l) (hl : l.length ≤ 1000000) (hg : Gl w) :
    Calls Tryd.prog 41 #[v] w fun e w' => e = .returned (.agg (rowB (keyN l))) ∧ Below w.heap.size w w' := by
  have hs' := hs
  obtain ⟨A, n, c, rfl⟩ := hs.shape
  have hn := hs.len
  have hB0 := (Blk.new w 68 (rowB (List.replicate 64 0))).alloc (.cells (rowB (List.replicate 64 0)) 68)
  have hB1 := Blk.new (w.alloc (.cells (rowB (List.replicate 64 0)) 68)) 68 (rowB (List.replicate 64 0))
  rw [show (w.alloc (.cells (rowB (List.replicate 64 0)) 68)).heap.size = w.heap.size + 1 by simp] at hB1
  have hbw : Below w.heap.size w ((w.alloc (.cells (rowB (List.replicate 64 0)) 68)).alloc (.cells (rowB (List.replicate 64 0)) 68)) := ((Below.refl _ _).alloc (Nat.le_refl _) _).alloc (by simp) _
  have hsz : ((w.alloc (.cells (rowB (List.replicate 64 0)) 68)).alloc (.cells (rowB (List.replicate 64 0)) 68)).heap.size = w.heap.size + 1 + 1 := by simp
  have hZ : (rowB (List.replicate 64 0)).size = 64 := by rw [rowB_size, List.length_replicate]
  subst hn
  have HSh := Lib.hid (keyN_short l)
  have hle := shortN_le l
  go_enter Tryd.func41, Tryd.ntmps41
  go_upto_region 2 with (fail)
  change Code.wp _ _ _ _ ((w.alloc (.cells (rowB (List.replicate 64 0)) 68)).alloc (.cells (rowB (List.replicate 64 0)) 68))
  have hs1 := hs.below (hbw.mono (Nat.le_refl _))
  have hg1 := hg.below hbw
  generalize (w.alloc (.cells (rowB (List.replicate 64 0)) 68)).alloc (.cells (rowB (List.replicate 64 0)) 68) = W at hB0 hB1 hbw hsz hs1 hg1 ⊢

  clear hs hs' hg
  by_cases h64 : 64 < l.length
  · have E := Lib.hid (shortN_long l h64)
    have HSZ := Lib.hid hsz
    clear hsz
    have hfl : [l].flatten.length ≤ 1000000 := by simpa using hl
    have hW32 := shaN_length l
    have hsl := Sls.one W 22 _ l hs1
    go_wp2_with fail
    refine (sum_any _ [l] _ hsl hfl (by simp) (hg1.below ((Below.refl _ _).alloc (Nat.le_refl _) _))).mono ?_
    rintro e w1 ⟨rfl, hb1⟩
    rw [show [l].flatten = l by simp]
    have hbA : Below (w.heap.size + 1 + 1) W w1 := ((Below.refl _ _).alloc (by have := HSZ.out; omega) _).trans (hb1.mono (by have := HSZ.out; simp; omega))
    clear hb1 hsl hfl
    have hzW1 : w.heap.size + 1 + 1 ≤ w1.heap.size := by have := hbA.size; have := HSZ.out; omega
    have hi32 := rowB_info hW32
    have h132 := rowB_one (shaN l)
    have hs32 := rowB_size (shaN l)
    rw [hW32] at hs32
    have hN := Blk.new w1 45 (rowB (List.replicate 32 0))
    have hZ32 : (rowB (List.replicate 32 0)).size = 32 := by rw [rowB_size, List.length_replicate]
    have ESH := Lib.hid (show shortN l = shaN l from E.out)
    have HSX := Lib.hid (show keyN l = shaN l ++ List.replicate (64 - (shaN l).length) 0 by rw [HSh.out, E.out])
    clear HSh hle hs1
    generalize shaN l = s at hi32 h132 hs32 hW32 HSX ⊢
    have hle : s.length ≤ 64 := by omega
    generalize hT0 : rowB s = T0 at hi32 h132 hs32 ⊢
    have hth0 : (w1.alloc (.cells (rowB (List.replicate 32 0)) 45)).there w1.heap.size 0 T0.size := by rw [hs32, ← hZ32]; exact hN.there
    have hNT := hN.setRow (ds := T0) (by rw [hs32, hZ32])
    have hbT : Below (w.heap.size + 1 + 1) W ((w1.alloc (.cells (rowB (List.replicate 32 0)) 45)).setCells w1.heap.size 0 T0.toList) :=
      Below.only (hbA.alloc hzW1 _) (grown_setCells _ _ _ _) hzW1 (by simp; omega)
    go_upto_region 4 with (refine wpList_store_mid rfl 45 _ _ rfl w1.heap.size 0 T0 rfl rfl hth0 hi32 h132 ?_)
    change Code.wp _ _ _ _ ((w1.alloc (.cells (rowB (List.replicate 32 0)) 45)).setCells w1.heap.size 0 T0.toList)
    generalize (w1.alloc (.cells (rowB (List.replicate 32 0)) 45)).setCells w1.heap.size 0 T0.toList = HW at hNT hbT ⊢
    rw [← hT0] at hNT
    clear hT0 hN hth0
    have HSL : Sl HW (.slice (some ⟨w1.heap.size, 0, none⟩) 32 32) s := hNT.bytes 32 32 hW32.symm (Nat.le_refl _)
    have HB1 := hB1.below hbT (by omega)
    have HB0 := hB0.below hbT (by omega)
    have HBW : Below w.heap.size w HW := hbw.trans (hbT.mono (by omega))
    have hz1 : w.heap.size + 1 < HW.heap.size := HB1.lt
    have HSh := HSX
    go_wp2_with (refine wpList_copy_splice rfl (.tmp 12) (.tmp 13) 22 22 rfl 5 Tryd.underlying22 size_u8 _ _ 64 64 _ _ rfl rfl (w.heap.size + 1) 0 ((List.replicate 64 (0 : UInt8)).map bv) 68 HB1 (s.map bv) (by rw [List.length_map]; rw [hW32]; rfl) (fun hp => ⟨rfl, HSL.cells (by simpa using hp)⟩) (by simp; omega) (bv_one s) (w.heap.size + 1) HW (Below.refl _ _) (Nat.le_refl _) ?_)
    intro w2 hg2 hb2
    have hE : Blk w2 (w.heap.size + 1) 68 (rowB (s ++ List.replicate (64 - s.length) 0)) := by rw [← splice_zeros s 64 hle]; exact hg2.out
    clear hg2
    have hZ2 := HB0.below hb2 (by omega)
    have hb02 : Below w.heap.size w w2 := HBW.trans (hb2.mono (by omega))
    have hl64 : (s ++ List.replicate (64 - s.length) 0).length = 64 := by simp; omega
    have hi := rowB_info64 hl64
    have h1 := rowB_one (s ++ List.replicate (64 - s.length) 0)
    have hs2 := rowB_size (s ++ List.replicate (64 - s.length) 0)
    rw [hl64] at hs2
    rw [← HSh.out] at hi h1 hs2 hE
    generalize hT : rowB (keyN l) = T at hE hi h1 hs2
    have ET := Lib.hid hT
    clear hT
    have hth : w2.there w.heap.size 0 T.size := by rw [hs2, ← hZ]; exact hZ2.there
    go_wp2_with (first | (refine wpList_load_row rfl 68 _ rfl (w.heap.size + 1) rfl 68 T (0, 0) _ hE Tryd.underlying68 rfl hi ?_) | (refine wpList_store_mid rfl 68 _ _ rfl w.heap.size 0 T rfl rfl hth hi h1 ?_))
    have hEE : Blk (w2.setCells w.heap.size 0 T.toList) w.heap.size 68 T := hZ2.setRow (by rw [hs2, hZ])
    have hgE := grown_setCells w.heap.size T.toList 0 w2
    exact bodyPost_ret (v := .agg T) (results_cell_row rfl _ _ w.heap.size 68 T (0, 0) _ rfl hEE Tryd.underlying68 rfl hi) rfl ⟨by rw [ET.out], Below.only hb02 hgE (Nat.le_refl _) hb02.size⟩
  · have E := Lib.hid (shortN_self l (by omega))
    rw [← E.out] at hs1 h64 ⊢
    generalize shortN l = s at hs1 h64 hle HSh E ⊢
    have HB1 := hB1
    have HB0 := hB0
    have HSL := hs1
    have HBW := hbw
    obtain ⟨HW, eW⟩ : ∃ X, X = W := ⟨W, rfl⟩
    subst eW
    go_wp2_with (refine wpList_copy_splice rfl (.tmp 12) (.tmp 13) 22 22 rfl 5 Tryd.underlying22 size_u8 _ _ 64 64 _ _ rfl rfl (w.heap.size + 1) 0 ((List.replicate 64 (0 : UInt8)).map bv) 68 HB1 (s.map bv) (by rw [List.length_map]; exact (Nat.min_eq_left hle).symm) (fun hp => ⟨rfl, HSL.cells (by simpa using hp)⟩) (by simp; omega) (bv_one s) (w.heap.size + 1) HW (Below.refl _ _) (Nat.le_refl _) ?_)
    intro w2 hg2 hb2
    have hE : Blk w2 (w.heap.size + 1) 68 (rowB (s ++ List.replicate (64 - s.length) 0)) := by rw [← splice_zeros s 64 hle]; exact hg2.out
    clear hg2
    have hZ2 := HB0.below hb2 (by omega)
    have hb02 : Below w.heap.size w w2 := HBW.trans (hb2.mono (by omega))
    have hl64 : (s ++ List.replicate (64 - s.length) 0).length = 64 := by simp; omega
    have hi := rowB_info64 hl64
    have h1 := rowB_one (s ++ List.replicate (64 - s.length) 0)
    have hs2 := rowB_size (s ++ List.replicate (64 - s.length) 0)
    rw [hl64] at hs2
    rw [← HSh.out] at hi h1 hs2 hE
    generalize hT : rowB (keyN l) = T at hE hi h1 hs2
    have ET := Lib.hid hT
    clear hT
    have hth : w2.there w.heap.size 0 T.size := by rw [hs2, ← hZ]; exact hZ2.there
    go_wp2_with (first | (refine wpList_load_row rfl 68 _ rfl (w.heap.size + 1) rfl 68 T (0, 0) _ hE Tryd.underlying68 rfl hi ?_) | (refine wpList_store_mid rfl 68 _ _ rfl w.heap.size 0 T rfl rfl hth hi h1 ?_))
    have hEE : Blk (w2.setCells w.heap.size 0 T.toList) w.heap.size 68 T := hZ2.setRow (by rw [hs2, hZ])
    have hgE := grown_setCells w.heap.size T.toList 0 w2
    exact bodyPost_ret (v := .agg T) (results_cell_row rfl _ _ w.heap.size 68 T (0, 0) _ rfl hEE Tryd.underlying68 rfl hi) rfl ⟨by rw [ET.out], Below.only hb02 hgE (Nat.le_refl _) hb02.size⟩
end Go.Proofs.YthlopecllhdmhaaDoor

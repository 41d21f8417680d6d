/-
  OrsetNil: its walk.
-/
import Derived.Test.YtldfaaahmpncbaaGreatOrtP
namespace Go.Proofs.YtldfaaahmpncbaaGreat
open Go.RowKit Go.Maps
open CtxM
set_option linter.unusedVariables false
set_option linter.unusedSimpArgs false
set_option maxRecDepth 20000
theorem oof_nil (w : World) : Calls Tryz.prog 43 #[.pointer none, .slice none 0 0] w fun e w' => e = .returned (.tuple #[.pointer none, .int .i64 1]) ∧ w' = w := by
  have HS := Lib.hid (same_non (.pointer none) (.pointer none) w (.inl rfl) (.inl rfl))
  go_enter Tryz.func43, Tryz.ntmps43
  go_wp2_with fail
  refine HS.out.mono ?_
  rintro e w1 ⟨rfl, hw⟩
  obtain rfl := hw.symm
  clear HS
  go_wp2
  go_ret2
  exact ⟨rfl, rfl⟩
set_option maxHeartbeats 8000000 in
theorem onil_any (w : World) : Calls Tryz.prog 7 #[] w fun e w' => e = .returned (.bool true) ∧ Below w.heap.size w w' := by
  have hm := (((Kn.start w).newBox 84 #[.pointer none, .map none, .map none]).newBox 25 #[.pointer none, .pointer (some ⟨w.heap.size, 0, none⟩)]).newBox 41 #[.int .i64 1, .int .u64 1]
  replace hm := hm.newBox 39 #[.string ⟨#[97]⟩, .string ⟨#[98]⟩]
  simp only [World.size_alloc] at hm
  go_enter Tryz.func7, Tryz.ntmps7
  go_upto_region 5 with fail
  change Code.wp _ _ _ _ ((((w.alloc (.cells #[.pointer none, .map none, .map none] 84)).alloc (.cells #[.pointer none, .pointer (some ⟨w.heap.size, 0, none⟩)] 25)).alloc (.cells #[.int .i64 1, .int .u64 1] 41)).alloc (.cells #[.string ⟨#[97]⟩, .string ⟨#[98]⟩] 39))
  generalize (((w.alloc (.cells #[.pointer none, .map none, .map none] 84)).alloc (.cells #[.pointer none, .pointer (some ⟨w.heap.size, 0, none⟩)] 25)).alloc (.cells #[.int .i64 1, .int .u64 1] 41)).alloc (.cells #[.string ⟨#[97]⟩, .string ⟨#[98]⟩] 39) = W0 at hm ⊢
  obtain ⟨zk, hzk⟩ : ∃ z, w.heap.size + 1 + 1 + 1 = z := ⟨_, rfl⟩
  obtain ⟨zd, hzd⟩ : ∃ z, w.heap.size + 1 + 1 = z := ⟨_, rfl⟩
  obtain ⟨zl, hzl⟩ : ∃ z, w.heap.size + 1 = z := ⟨_, rfl⟩
  obtain ⟨zs, hzs⟩ : ∃ z, w.heap.size = z := ⟨_, rfl⟩
  replace hm : Kn w W0 [] [(zk, 39, #[.string ⟨#[97]⟩, .string ⟨#[98]⟩]), (zd, 41, #[.int .i64 1, .int .u64 1]), (zl, 25, #[.pointer none, .pointer (some ⟨zs, 0, none⟩)]), (zs, 84, #[.pointer none, .map none, .map none])] [] := by rw [← hzk, ← hzd, ← hzl, ← hzs]; exact hm
  rw [hzk, hzd, hzl]
  clear hzk hzd hzl hzs
  go_wp2_with fail
  go_loopw [5] (fun z wr => ∃ i : Nat, z = .int .i64 (i : Int) ∧ i ≤ 2 ∧ Kn w wr [] [(zk, 39, #[.string ⟨#[97]⟩, .string ⟨#[98]⟩]), (zd, 41, #[.int .i64 1, .int .u64 1]), (zl, 25, #[.pointer none, .pointer (some ⟨zs, 0, none⟩)]), (zs, 84, #[.pointer none, .map none, .map none])] []) (fun z _ => 2 - (intOf z).toNat)
  case atStart => exact ⟨0, rfl, by omega, hm⟩
  case round =>
    obtain ⟨i, rfl, hi, hm⟩ := hrel
    by_cases hlt : i < 2
    · have hlti : (i : Int) < 2 := by omega
      obtain ⟨sv, hcell, hns⟩ : ∃ sv, (∀ X, Kn w X [] [(zk, 39, #[.string ⟨#[97]⟩, .string ⟨#[98]⟩]), (zd, 41, #[.int .i64 1, .int .u64 1]), (zl, 25, #[.pointer none, .pointer (some ⟨zs, 0, none⟩)]), (zs, 84, #[.pointer none, .map none, .map none])] [] → X.cell? ⟨zl, i, none⟩ = some sv) ∧ (∀ X, Kn w X [] [(zk, 39, #[.string ⟨#[97]⟩, .string ⟨#[98]⟩]), (zd, 41, #[.int .i64 1, .int .u64 1]), (zl, 25, #[.pointer none, .pointer (some ⟨zs, 0, none⟩)]), (zs, 84, #[.pointer none, .map none, .map none])] [] → NoS X sv) := by
        rcases (show i = 0 ∨ i = 1 by omega) with rfl | rfl
        · exact ⟨.pointer none, fun X h => by rw [(h.box (zl, 25, #[.pointer none, .pointer (some ⟨zs, 0, none⟩)]) (by simp)).1.cell]; rfl, fun X h => .inl rfl⟩
        · exact ⟨.pointer (some ⟨zs, 0, none⟩), fun X h => by rw [(h.box (zl, 25, #[.pointer none, .pointer (some ⟨zs, 0, none⟩)]) (by simp)).1.cell]; rfl, fun X h => .inr ⟨zs, rfl, by rw [(h.box (zs, 84, #[.pointer none, .map none, .map none]) (by simp)).1.cell]; rfl⟩⟩
      have q0 := hcell wr hm
      have HNS := Lib.hid hns
      clear hcell hns
      obtain ⟨x0, hx0⟩ : ∃ x, x = wr := ⟨_, rfl⟩
      subst hx0
      have c_k0 : x0.cell? ⟨zk, 0, none⟩ = some (.string ⟨#[97]⟩) := by rw [(hm.box (zk, 39, #[.string ⟨#[97]⟩, .string ⟨#[98]⟩]) (by simp)).1.cell]; rfl
      have c_k1 : x0.cell? ⟨zk, 1, none⟩ = some (.string ⟨#[98]⟩) := by rw [(hm.box (zk, 39, #[.string ⟨#[97]⟩, .string ⟨#[98]⟩]) (by simp)).1.cell]; rfl
      have c_d0 : x0.cell? ⟨zd, 0, none⟩ = some (.int .i64 1) := by rw [(hm.box (zd, 41, #[.int .i64 1, .int .u64 1]) (by simp)).1.cell]; rfl
      have c_d1 : x0.cell? ⟨zd, 1, none⟩ = some (.int .u64 1) := by rw [(hm.box (zd, 41, #[.int .i64 1, .int .u64 1]) (by simp)).1.cell]; rfl
      have HA := Lib.hid (nos_add (HNS.out x0 hm) ⟨#[97]⟩ ⟨#[98]⟩ (1, 1))
      go_wp2_with fail
      refine HA.out.mono ?_
      rintro e x1 ⟨rfl, hb⟩
      replace hm := hm.below hb
      clear HA hb
      clear c_k0 c_k1 c_d0 c_d1
      have c_k0 : x1.cell? ⟨zk, 0, none⟩ = some (.string ⟨#[97]⟩) := by rw [(hm.box (zk, 39, #[.string ⟨#[97]⟩, .string ⟨#[98]⟩]) (by simp)).1.cell]; rfl
      have c_k1 : x1.cell? ⟨zk, 1, none⟩ = some (.string ⟨#[98]⟩) := by rw [(hm.box (zk, 39, #[.string ⟨#[97]⟩, .string ⟨#[98]⟩]) (by simp)).1.cell]; rfl
      have HA := Lib.hid (nos_remove (HNS.out x1 hm) ⟨#[97]⟩ ⟨#[98]⟩)
      go_wp2_with fail
      refine HA.out.mono ?_
      rintro e x2 ⟨rfl, hb⟩
      replace hm := hm.below hb
      clear HA hb
      clear c_k0 c_k1
      have HA := Lib.hid (nos_see (HNS.out x2 hm) (.slice none 0 0))
      go_wp2_with fail
      refine HA.out.mono ?_
      rintro e x3 ⟨rfl, hb⟩
      replace hm := hm.below hb
      clear HA hb
      have HA := Lib.hid (nos_bucket (HNS.out x3 hm) 0)
      go_wp2_with fail
      refine HA.out.mono ?_
      rintro e x4 ⟨rfl, hb⟩
      replace hm := hm.below hb
      clear HA hb
      have c_d0 : x4.cell? ⟨zd, 0, none⟩ = some (.int .i64 1) := by rw [(hm.box (zd, 41, #[.int .i64 1, .int .u64 1]) (by simp)).1.cell]; rfl
      have c_d1 : x4.cell? ⟨zd, 1, none⟩ = some (.int .u64 1) := by rw [(hm.box (zd, 41, #[.int .i64 1, .int .u64 1]) (by simp)).1.cell]; rfl
      have HA := Lib.hid (nos_live (HNS.out x4 hm) (1, 1) (by unfold OkD; decide))
      go_wp2_with fail
      refine HA.out.mono ?_
      rintro e x5 ⟨rfl, hb⟩
      replace hm := hm.below hb
      clear HA hb
      clear c_d0 c_d1
      go_upto_region 14 with fail
      replace hm := hm.below ((Below.refl x5.heap.size x5).alloc (Nat.le_refl _) (.cells #[.string ⟨#[]⟩, .string ⟨#[]⟩] 39))
      change Code.wp _ _ _ _ (x5.alloc (.cells #[.string ⟨#[]⟩, .string ⟨#[]⟩] 39))
      generalize x5.alloc (.cells #[.string ⟨#[]⟩, .string ⟨#[]⟩] 39) = x6 at hm ⊢
      have c_d0 : x6.cell? ⟨zd, 0, none⟩ = some (.int .i64 1) := by rw [(hm.box (zd, 41, #[.int .i64 1, .int .u64 1]) (by simp)).1.cell]; rfl
      have c_d1 : x6.cell? ⟨zd, 1, none⟩ = some (.int .u64 1) := by rw [(hm.box (zd, 41, #[.int .i64 1, .int .u64 1]) (by simp)).1.cell]; rfl
      have HA := Lib.hid (nos_collect (HNS.out x6 hm) (1, 1))
      go_wp2_with fail
      refine HA.out.mono ?_
      rintro e x7 ⟨rfl, hb⟩
      replace hm := hm.below hb
      clear HA hb
      clear c_d0 c_d1
      have c_k0 : x7.cell? ⟨zk, 0, none⟩ = some (.string ⟨#[97]⟩) := by rw [(hm.box (zk, 39, #[.string ⟨#[97]⟩, .string ⟨#[98]⟩]) (by simp)).1.cell]; rfl
      have c_k1 : x7.cell? ⟨zk, 1, none⟩ = some (.string ⟨#[98]⟩) := by rw [(hm.box (zk, 39, #[.string ⟨#[97]⟩, .string ⟨#[98]⟩]) (by simp)).1.cell]; rfl
      have HA := Lib.hid (nos_has (HNS.out x7 hm) ⟨#[97]⟩ ⟨#[98]⟩)
      go_wp2_with fail
      refine HA.out.mono ?_
      rintro e x8 ⟨rfl, hb⟩
      replace hm := hm.below hb
      clear HA hb
      clear c_k0 c_k1
      have c_d0 : x8.cell? ⟨zd, 0, none⟩ = some (.int .i64 1) := by rw [(hm.box (zd, 41, #[.int .i64 1, .int .u64 1]) (by simp)).1.cell]; rfl
      have c_d1 : x8.cell? ⟨zd, 1, none⟩ = some (.int .u64 1) := by rw [(hm.box (zd, 41, #[.int .i64 1, .int .u64 1]) (by simp)).1.cell]; rfl
      have HA := Lib.hid (nos_gone (HNS.out x8 hm) (1, 1) (by unfold OkD; decide))
      go_wp2_with fail
      refine HA.out.mono ?_
      rintro e x9 ⟨rfl, hb⟩
      replace hm := hm.below hb
      clear HA hb
      clear c_d0 c_d1
      have HA := Lib.hid (nos_dests (HNS.out x9 hm) ⟨#[97]⟩)
      go_wp2_with fail
      refine HA.out.mono ?_
      rintro e x10 ⟨rfl, hb⟩
      replace hm := hm.below hb
      clear HA hb
      have HA := Lib.hid (nos_keys (HNS.out x10 hm))
      go_wp2_with fail
      refine HA.out.mono ?_
      rintro e x11 ⟨va, rfl, ho, hb⟩
      replace hm := hm.below hb
      clear HA hb
      obtain ⟨Ava, cva, hva⟩ := ho.shape
      replace hva : va = .slice Ava 0 cva := hva
      subst hva
      clear ho
      have HA := Lib.hid (nos_items_ (HNS.out x11 hm))
      go_wp2_with fail
      refine HA.out.mono ?_
      rintro e x12 ⟨vb, rfl, ho, hb⟩
      replace hm := hm.below hb
      clear HA hb
      obtain ⟨Avb, cvb, hvb⟩ := ho.shape
      replace hvb : vb = .slice Avb 0 cvb := hvb
      subst hvb
      clear ho
      have HA := Lib.hid (nos_tombs (HNS.out x12 hm))
      go_wp2_with fail
      refine HA.out.mono ?_
      rintro e x13 ⟨vc, rfl, ho, hb⟩
      replace hm := hm.below hb
      clear HA hb
      have hsd := ho.sd
      obtain ⟨Avc, nvc, cvc, rfl⟩ := ho.shape
      obtain rfl := hsd.len
      clear hsd ho
      have HA := Lib.hid (nos_ctx (HNS.out x13 hm))
      go_wp2_with fail
      refine HA.out.mono ?_
      rintro e x14 ⟨rfl, hb⟩
      replace hm := hm.below hb
      clear HA hb
      have HA := Lib.hid (nos_copy (HNS.out x14 hm))
      go_wp2_with fail
      refine HA.out.mono ?_
      rintro e x15 ⟨rfl, hb⟩
      replace hm := hm.below hb
      clear HA hb
      go_wp2
      exact ⟨⟨i + 1, by go_num, by omega, hm⟩, by simp [intOf]; omega⟩
    · obtain rfl : i = 2 := by omega
      have hlti : ¬ ((2 : Int) < 2) := by omega
      go_wp2_with fail
      refine (oof_nil _).mono ?_
      rintro e y1 ⟨rfl, hy⟩
      obtain rfl := hy.symm
      go_wp2_with fail
      refine (oknown_any _).mono ?_
      rintro e y2 ⟨rfl, hb⟩
      have hfin := hm.bel.trans (hb.mono hm.bel.size)
      clear hm hb
      go_wp2
      go_ret
      exact ⟨rfl, hfin⟩
end Go.Proofs.YtldfaaahmpncbaaGreat

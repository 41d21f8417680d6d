/-
  The document's Crash.
-/
import Derived.Test.YtdbkhigocjmfoaaDskRefWX
namespace Go.Proofs.Ytdbkhigocjmfoaa
open Go.RowKit
open DskM
set_option linter.unusedVariables false
set_option linter.unusedSimpArgs false
set_option maxRecDepth 20000
attribute [local go_sem] Oper.semAt_some
section
variable {w w' : World} {q : Nat} {v : Value} {S : Ds} {R : List Fr}
/-- What stands when j files have come. -/
def RfI (w : World) (S : Ds) (R : List Fr) (kp : List Int) (x z : Value) (wr : World) : Prop :=
  ∃ (j kk : Nat) (v' : Value) (R' : List Fr), j ≤ R.length ∧ kk ≤ j ∧ z = .int .i64 (j : Int) ∧ x = .int .i64 (kk : Int) ∧ restP kp ((pl R).take j) = kp.drop kk ∧ pl R' = crashP kp ((pl R).take j) ∧
    Rd wr w.heap.size v' ⟨S.cap, -1, false, 0⟩ R' ∧ Below w.heap.size w wr ∧ (∀ i, v'.ownBlock = some i → w.heap.size ≤ i) ∧ ∀ f ∈ R', ∃ f' ∈ R, ∀ i, f.v.ownBlock = some i → f'.v.ownBlock = some i
theorem pl_take_step (R : List Fr) {j : Nat} (hj : j < R.length) {f : Fr} (hf : R[j] = f) : (pl R).take (j + 1) = (pl R).take j ++ [f.p] := by
  subst hf
  have h : j < (pl R).length := by rw [pl_len]; exact hj
  have := List.take_append_getElem h
  rw [← this, pl_get]
theorem int_eq' {a b : Int} (h : a = b) : Value.int .i64 a = Value.int .i64 b := by rw [h]
set_option maxHeartbeats 8000000 in
theorem refCrash_any (h : Rd w q v S R) (hf : Fit S (pl R)) (kv : Value) (kp : List Int) (hk : SlN w kv kp) :
    Calls Try.prog 47 #[.pointer (some ⟨q, 0, none⟩), kv] w fun e w' => ∃ q' v' R', e = .returned (.pointer (some ⟨q', 0, none⟩)) ∧ Rd w' q' v' ⟨S.cap, -1, false, 0⟩ R' ∧ pl R' = crashP kp (pl R) ∧ Below w.heap.size w w' ∧
      w.heap.size ≤ q' ∧ (∀ i, v'.ownBlock = some i → w.heap.size ≤ i) ∧ ∀ f ∈ R', ∃ f' ∈ R, ∀ i, f.v.ownBlock = some i → f'.v.ownBlock = some i := by
  have hfo : Try.prog.follows .mixedOrders = true := by kernel_rfl
  obtain ⟨i0, hif, hz0, hz1, hz2⟩ := info_file'
  have hl : R.length ≤ 64 := by have := hf.few; rw [pl_len] at this; exact this
  obtain ⟨A, c, hv, hc1, hc2⟩ := h.row.shape
  obtain ⟨Ak, ck, hkv, hkc, hkc2, hkx⟩ := hk
  have q1 := h.c1
  have H := Lib.hid h
  have HF := Lib.hid hf
  have HL := Lib.hid hl
  have HV := Lib.hid hv
  have hb0 : Below w.heap.size w (w.alloc (.cells #[.slice none 0 0, .int .i64 (S.cap : Int), .int .i64 (-1), .bool false, .int .i64 0] 33)) := al1 w _
  have hR0 : Rd (w.alloc (.cells #[.slice none 0 0, .int .i64 (S.cap : Int), .int .i64 (-1), .bool false, .int .i64 0] 33)) w.heap.size (.slice none 0 0) ⟨S.cap, -1, false, 0⟩ [] := ⟨Blk.new w _ _, OwnF.nil, fun f hf => by cases hf⟩
  have H0 := Lib.hid (And.intro hR0 hb0)
  have HC := Lib.hid (show ∀ X, Below w.heap.size w X → X.cell? ⟨q, 0, none⟩ = some (.slice A R.length c) from fun X hX => by have := (h.below hX).c0; rw [hv] at this; exact this)
  have HKX := Lib.hid (show ∀ X, Below w.heap.size w X → ∀ j (hj : j < kp.length), ∃ b o, Ak = some ⟨b, o, none⟩ ∧ X.cell? ⟨b, o + j, none⟩ = some (.int .i64 kp[j]) from fun X hX j hj => by
    obtain ⟨b, o, e, hx⟩ := hkx (by omega)
    exact ⟨b, o, e, (hX.cell (World.block_lt_of_cell? _ _ (hx j hj))).trans (hx j hj)⟩)
  have HW := Lib.hid (show w.heap.size < (w.alloc (.cells #[.slice none 0 0, .int .i64 (S.cap : Int), .int .i64 (-1), .bool false, .int .i64 0] 33)).heap.size by simp)
  subst hkv
  clear h hf hl hv hc1 hb0 hR0 hkx
  go_enter Try.func47, Try.ntmps47
  go_wp2_with fail
  clear q1
  go_loopw [6, 7] (RfI w S R kp) (fun _ z _ => R.length - (intOf z).toNat)
  case atStart => exact ⟨0, 0, _, [], Nat.zero_le _, Nat.le_refl _, rfl, rfl, rfl, rfl, H0.out.1, H0.out.2, (fun i hi => by cases hi), fun f hf => by cases hf⟩
  case round =>
    obtain ⟨j, kk, v1, R1, hj, hkj, rfl, rfl, hrs, hpl, hR1, hb1, hf1, hs1⟩ := hrel
    have H1 := Lib.hid hR1
    have HB1 := Lib.hid hb1
    have HF1 := Lib.hid hf1
    have HS1 := Lib.hid hs1
    have HRS := Lib.hid hrs
    have HPL := Lib.hid hpl
    have x0 := HC.out wr HB1.out
    clear hrs hpl hR1 hb1 hf1 hs1
    by_cases hlt : j < R.length
    · have hltI : (j : Int) < (R.length : Int) := by omega
      have hj0 : (0 : Int) ≤ (j : Int) := by omega
      have h64 : (j : Int) < 64 := by have := HL.out; omega
      have hk0 : (0 : Int) ≤ (kk : Int) := by omega
      have hk64 : (kk : Int) < 64 := by omega
      obtain ⟨f0, hf0⟩ : ∃ f0, R[j] = f0 := ⟨_, rfl⟩
      have HG0 := Lib.hid hf0
      have HF0 := Lib.hid (show f0 ∈ R from hf0 ▸ List.getElem_mem hlt)
      have hx := H.out.below HB1.out
      obtain ⟨g, c9, hv9, _, _, hz1x, hz2x⟩ := hx.row.form (by omega)
      rw [hv9] at hx
      obtain ⟨A1, c1, eV, hbV, y0, y1, y2, y3, _⟩ := hx.fileIs hlt hf0
      obtain ⟨rfl, rfl⟩ : A = some ⟨g, 0, none⟩ ∧ c = c9 := by have e := HV.out; rw [hv9] at e; injection e with a1 a2 a3; exact ⟨a1.symm, a3.symm⟩
      have EV := Lib.hid eV
      have hla : f0.la ≤ f0.bs.length := HF.out.las f0.p (List.mem_map.2 ⟨f0, HF0.out, rfl⟩)
      have hbl : f0.bs.length ≤ 16777216 := by have h1 := mem_total (List.mem_map.2 ⟨f0, HF0.out, rfl⟩ : f0.p ∈ pl R); have h1 : f0.bs.length ≤ totalP (pl R) := h1; have := HF.out.cap; have := HF.out.room; omega
      obtain ⟨sn, hsn⟩ : ∃ sn : ByteArray, sn = ⟨f0.nm.toArray⟩ := ⟨_, rfl⟩
      have HSN := Lib.hid (show sn.data.toList = f0.nm by rw [hsn])
      rw [← hsn] at y1
      have HTS := Lib.hid (pl_take_step R hlt hf0)
      obtain ⟨lo, hlo⟩ : ∃ lo : Int, lo = (f0.bs.length : Int) - (f0.la : Int) := ⟨_, rfl⟩
      have hw1 : IntKind.i64.wrap ((f0.bs.length : Int) - (f0.la : Int)) = lo := by rw [hlo, IntKind.wrap_i64] <;> omega
      have hlo1 : lo ≤ 16777216 := by omega
      have HLT := Lib.hid hlt
      have HLA := Lib.hid (And.intro hla (And.intro hbl hlo))
      have hkk1 : IntKind.i64.wrap ((kk : Int) + 1) = ((kk + 1 : Nat) : Int) := by rw [IntKind.wrap_i64] <;> omega
      clear hx hv9 eV hsn hf0 hz1x hz2x hlo
      by_cases hloose : 0 < lo
      · have hld : decide (0 < lo) = true := decide_eq_true hloose
        have hw2 : IntKind.i64.wrap (lo + 1) = lo + 1 := by rw [IntKind.wrap_i64] <;> omega
        by_cases hkl : kk < kp.length
        · have hklI : (kk : Int) < (kp.length : Int) := by omega
          obtain ⟨b, o, rfl, hkc0⟩ := HKX.out wr HB1.out kk hkl
          obtain ⟨kx, hkx⟩ : ∃ kx, kp[kk] = kx := ⟨_, rfl⟩
          have hkc0 : wr.cell? ⟨b, o + kk, none⟩ = some (.int .i64 kx) := hkc0.trans (congrArg (fun z => some (Value.int .i64 z)) hkx)
          have hkc1 : (wr.alloc (.cells #[.string sn, .slice A1 f0.bs.length c1, .int .i64 (f0.la : Int)] 73)).cell? ⟨b, o + kk, none⟩ = some (.int .i64 kx) := ((al1 wr _).cell (World.block_lt_of_cell? _ _ hkc0)).trans hkc0
          have hdr : kp.drop kk = kx :: kp.drop (kk + 1) := (List.drop_eq_getElem_cons hkl).trans (congrArg (fun z => z :: kp.drop (kk + 1)) hkx)
          have hll : f0.la < f0.bs.length := by have := HLA.out; omega
          have HKK2 := Lib.hid (show kk + 1 ≤ j + 1 by omega)
          obtain ⟨A5, c5, hv1, _, _⟩ := H1.out.row.shape
          obtain ⟨n5, hn5⟩ : ∃ n5, n5 = R1.length := ⟨_, rfl⟩
          rw [← hn5] at hv1
          have HV1 := Lib.hid hv1
          have HLR := Lib.hid (show R1.length + 1 ≤ 65 by have h1 := congrArg List.length HPL.out; rw [pl_len, crashP_len, List.length_take, pl_len] at h1; have := HL.out; omega)
          clear hv1 hn5
          by_cases hp : 0 < kx
          · have hpd : decide (0 < kx) = true := decide_eq_true hp
            obtain ⟨nn, hnn⟩ : ∃ nn, nn = (keptN f0.la f0.bs.length (kp.drop kk)).1 := ⟨_, rfl⟩
            obtain ⟨kk2, hkk2⟩ : ∃ kk2, kk2 = kk + 1 := ⟨_, rfl⟩
            rw [← hkk2] at HKK2
            have HZK := Lib.hid hkk2
            have HNN := Lib.hid (show nn ≤ f0.bs.length by rw [hnn]; exact (keptN_le HLA.out.1 _).2)
            have HKE := Lib.hid (show (keptN f0.la f0.bs.length (kp.drop kk)).1 = nn ∧ (keptN f0.la f0.bs.length (kp.drop kk)).2 = kp.drop kk2 from ⟨hnn.symm, by rw [hdr, keptN_cons hll, hkk2]⟩)
            have hw3 : wrap64 ((f0.la : Int) + kx % (lo + 1)) = (nn : Int) := by have := keptN_emod hll HLA.out.2.1 kx (kp.drop (kk + 1)); rw [← hdr, ← hnn, show max kx 0 = kx by omega, ← HLA.out.2.2] at this; exact this
            have hnn1 : nn ≤ c1 := by have := HNN.out; omega
            clear hla hbl hkx hnn hkk2 hdr hll
            have hnc : nn ≤ c1 := by have := HNN.out; omega
            have hsz1 := HB1.out.size
            have hb3 : Below wr.heap.size wr (wr.alloc (.cells #[.string sn, .slice A1 nn c1, .int .i64 (nn : Int)] 73)) := al1 wr _
            have hbd3 : Below wr.heap.size wr (wr.alloc (.cells #[.string sn, .slice A1 nn c1, .int .i64 (nn : Int)] 73)).drew := hb3.trans ((Below.refl _ _).drew.mono hb3.size)
            have HR3 := Lib.hid (H1.out.below hbd3)
            have HBW3 := Lib.hid (HB1.out.trans (hbd3.mono HB1.out.size))
            obtain ⟨b8, hb8⟩ : ∃ b8, b8 = wr.heap.size := ⟨_, rfl⟩
            have HB8 := Lib.hid hb8
            have HBK := Lib.hid (show Blk (wr.alloc (.cells #[.string sn, .slice A1 nn c1, .int .i64 (nn : Int)] 73)).drew b8 73 #[.string sn, .slice A1 nn c1, .int .i64 (nn : Int)] by rw [hb8]; exact Blk.new wr _ _)
            clear hb3 hbd3 hb8
            go_wp2_with fail
            rw [← HB8.out]
            obtain ⟨W0, hW0⟩ : ∃ W0, W0 = (wr.alloc (.cells #[.string sn, .slice A1 nn c1, .int .i64 (nn : Int)] 73)).drew := ⟨_, rfl⟩
            have HCC := Lib.hid (show ∀ X, Keep (fun i => v1.ownBlock = some i) (wr.alloc (.cells #[.string sn, .slice A1 nn c1, .int .i64 (nn : Int)] 73)).drew X → X.cell? ⟨w.heap.size, 0, none⟩ = some (.slice A5 n5 c5) ∧ X.cell? ⟨b8, 0, none⟩ = some (.string sn) ∧ X.cell? ⟨b8, 1, none⟩ = some (.slice A1 nn c1) ∧ X.cell? ⟨b8, 2, none⟩ = some (.int .i64 (nn : Int)) from fun X hX => by
              have hq := HR3.out.blk.kept hX (fun e => HR3.out.rowq _ e rfl)
              have hB := HBK.out.kept hX (fun e => by have := (H1.out.row.lt _ e).2; have := HB8.out; omega)
              exact ⟨by rw [hq.cell, HV1.out]; rfl, by rw [hB.cell]; rfl, by rw [hB.cell]; rfl, by rw [hB.cell]; rfl⟩)
            refine tail_begin 10 (S := fun X => Keep (fun i => v1.ownBlock = some i) (wr.alloc (.cells #[.string sn, .slice A1 nn c1, .int .i64 (nn : Int)] 73)).drew X) hfo (by kernel_rfl) (Keep.refl _ _) (fun hS0 => ?_)
            rw [← hW0] at hS0 HCC HR3 HBW3 HBK
            rw [← hW0]
            clear hW0 x0
            refine' tail_take (i := 0) (oi := ⟨some 72, _, _, _, _, _⟩) (v := _) rfl (by kernel_rfl) (by kernel_rfl) (by decide) (fun _ _ _ h => h) (Or.inl ⟨by rfl, ?y0d⟩) hS0 ?r0d
            case y0d => (intro w' hSw; obtain ⟨s0, s1, s2, s3⟩ := HCC.out w' hSw; go_simp; try rfl)
            try simp only [Act.put, List.setIfInBounds_toArray, List.set_cons_zero, List.set_cons_succ]
            refine' tail_take (i := 1) (oi := ⟨some 73, _, _, _, _, _⟩) (v := _) rfl (by kernel_rfl) (by kernel_rfl) (by decide) (fun _ _ _ h => h) (Or.inl ⟨by rfl, ?y1d⟩) hS0 ?r1d
            case y1d => (intro w' hSw; obtain ⟨s0, s1, s2, s3⟩ := HCC.out w' hSw; go_simp; try rfl)
            try simp only [Act.put, List.setIfInBounds_toArray, List.set_cons_zero, List.set_cons_succ]
            refine' tail_take (i := 2) (oi := ⟨some 74, _, _, _, _, _⟩) (v := _) rfl (by kernel_rfl) (by kernel_rfl) (by decide) (fun _ _ _ h => h) (Or.inl ⟨by rfl, ?y2d⟩) hS0 ?r2d
            case y2d => (intro w' hSw; obtain ⟨s0, s1, s2, s3⟩ := HCC.out w' hSw; go_simp; try rfl)
            try simp only [Act.put, List.setIfInBounds_toArray, List.set_cons_zero, List.set_cons_succ]
            refine' tail_take (i := 3) (oi := ⟨some 75, _, _, _, _, _⟩) (v := _) rfl (by kernel_rfl) (by kernel_rfl) (by decide) (fun _ _ _ h => h) (Or.inl ⟨by rfl, ?y3d⟩) hS0 ?r3d
            case y3d => (intro w' hSw; obtain ⟨s0, s1, s2, s3⟩ := HCC.out w' hSw; go_simp; try rfl)
            try simp only [Act.put, List.setIfInBounds_toArray, List.set_cons_zero, List.set_cons_succ]
            refine' tail_take (i := 4) (oi := ⟨some 76, _, _, _, _, _⟩) (v := _) rfl (by kernel_rfl) (by kernel_rfl) (by decide) (fun _ _ _ h => h) (Or.inl ⟨by rfl, ?y4d⟩) hS0 ?r4d
            case y4d => (intro w' hSw; obtain ⟨s0, s1, s2, s3⟩ := HCC.out w' hSw; go_simp; try rfl)
            try simp only [Act.put, List.setIfInBounds_toArray, List.set_cons_zero, List.set_cons_succ]
            refine' tail_take (i := 5) (oi := ⟨some 77, _, _, _, _, _⟩) (v := _) rfl (by kernel_rfl) (by kernel_rfl) (by decide) (fun _ _ _ h => h) (Or.inl ⟨by rfl, ?y5d⟩) hS0 ?r5d
            case y5d => (intro w' hSw; obtain ⟨s0, s1, s2, s3⟩ := HCC.out w' hSw; go_simp; try rfl)
            try simp only [Act.put, List.setIfInBounds_toArray, List.set_cons_zero, List.set_cons_succ]
            obtain ⟨fr, hfr⟩ : ∃ fr : Fr, fr = ⟨sn.data.toList, f0.bs.take nn, nn, .slice A1 nn c1⟩ := ⟨_, rfl⟩
            have HFR := Lib.hid hfr
            have hone1 : ∀ f ∈ [fr], f.v.oneCell' = true := by
              intro f hf
              have e : f = fr := by simpa using hf
              rw [e, hfr]
              rfl
            have hS6 : Keep (fun i => v1.ownBlock = some i) W0 (W0.alloc (.cells #[.string sn, .slice A1 nn c1, .int .i64 (nn : Int)] 73)) := Keep.of_below (al1 W0 _)
            have hs58 : SlF (W0.alloc (.cells #[.string sn, .slice A1 nn c1, .int .i64 (nn : Int)] 73)) (.slice (some ⟨W0.heap.size, 0, none⟩) 1 1) [fr] := by rw [HFR.out]; exact SlF.one W0 sn _ _ _
            have ho1 : OwnF (W0.alloc (.cells #[.string sn, .slice A1 nn c1, .int .i64 (nn : Int)] 73)) 0 v1 R1 := HR3.out.row.alloc _
            have hbw6 : Below w.heap.size w (W0.alloc (.cells #[.string sn, .slice A1 nn c1, .int .i64 (nn : Int)] 73)) := HBW3.out.alloc HBW3.out.size _
            have hlt6 : w.heap.size < (W0.alloc (.cells #[.string sn, .slice A1 nn c1, .int .i64 (nn : Int)] 73)).heap.size := by have := HBW3.out.size; simp; omega
            rw [HV1.out] at ho1
            refine tail_one (i := 6) (by kernel_rfl) rfl (by decide) (fun K hK => ?_)
            go_simp
            refine hK.out _ _ hS6 (fun _ => ?_)
            clear hK K
            try simp only [Act.put, List.setIfInBounds_toArray, List.set_cons_zero, List.set_cons_succ]
            generalize hW6 : W0.alloc (.cells #[.string sn, .slice A1 nn c1, .int .i64 (nn : Int)] 73) = W6 at hS6 hs58 ho1 hbw6 hlt6 ⊢
            clear hW6
            clear hfr
            refine tail_one (i := 7) (by kernel_rfl) rfl (by decide) (fun K hK => ?_)
            refine step_append_files W6 rfl (.tmp 76) (.tmp 78) 31 rfl 0 i0 Try.underlying31 hif hz0 hz1 hz2 _ _ rfl ho1 _ [fr] rfl hs58 hone1 (by have := HLR.out; simp only [List.length_singleton]; omega) (Nat.zero_le _) ?_
            intro v7 W7 ho7 hgr7 hloc7
            rw [← HV1.out] at hgr7 hloc7
            have hS7 : Keep (fun i => v1.ownBlock = some i) W0 W7 := hS6.trans (Keep.of_grown (S := fun i => v1.ownBlock = some i) hgr7 (fun k e => e)) (fun _ h => h) (fun _ _ h => h)
            have hbw7 : Below w.heap.size w W7 := hbw6.grown hgr7 hbw6.size HF1.out
            have hf7 : ∀ i, v7.ownBlock = some i → w.heap.size ≤ i ∧ i ≠ w.heap.size := fun i hi => by
              rcases hloc7 with e | e
              · rw [e] at hi; exact ⟨HF1.out i hi, H1.out.rowq i hi⟩
              · rw [e] at hi; cases hi; exact ⟨by omega, by omega⟩
            obtain ⟨A7, n7, c7, hv7⟩ : ∃ A n c, v7 = .slice A n c := by obtain ⟨A, c, e, _⟩ := ho7.shape; exact ⟨A, _, c, e⟩
            subst hv7
            have HO7 := Lib.hid ho7
            have HF7 := Lib.hid hf7
            have HBW7 := Lib.hid hbw7
            clear hgr7 hloc7 ho7 hf7 hs58 hone1 ho1 hbw6 hlt6 hbw7
            refine hK.out _ _ hS7 (fun _ => ?_)
            clear hK K
            try simp only [Act.put, List.setIfInBounds_toArray, List.set_cons_zero, List.set_cons_succ]
            refine' tail_take (i := 8) (oi := ⟨some 80, _, _, _, _, _⟩) (v := _) rfl (by kernel_rfl) (by kernel_rfl) (by decide) (fun _ _ _ h => h) (Or.inl ⟨by rfl, ?y8d⟩) hS7 ?r8d
            case y8d => (intro w' hSw; obtain ⟨s0, s1, s2, s3⟩ := HCC.out w' hSw; go_simp; try rfl)
            try simp only [Act.put, List.setIfInBounds_toArray, List.set_cons_zero, List.set_cons_succ]
            refine' tail_take (i := 9) (oi := ⟨some 81, _, _, _, _, _⟩) (v := _) rfl (by kernel_rfl) (by kernel_rfl) (by decide) (fun _ _ _ h => h) (Or.inl ⟨by rfl, ?y9d⟩) hS7 ?r9d
            case y9d => (intro w' hSw; obtain ⟨s0, s1, s2, s3⟩ := HCC.out w' hSw; go_simp; try rfl)
            try simp only [Act.put, List.setIfInBounds_toArray, List.set_cons_zero, List.set_cons_succ]
            have hq7 := HR3.out.blk.kept hS7 (fun e => HR3.out.rowq _ e rfl)
            have fz := hq7.frozen 0
            have fc : W7.cell? ⟨w.heap.size, 0, none⟩ = some (.slice A5 n5 c5) := (HCC.out W7 hS7).1
            have hk8 : Keep (fun i => i = w.heap.size) W7 (W7.setCell ⟨w.heap.size, 0, none⟩ (.slice A7 n7 c7)) := Keep.setCell _ _ _ rfl
            have hbw8 : Below w.heap.size w (W7.setCell ⟨w.heap.size, 0, none⟩ (.slice A7 n7 c7)) := HBW7.out.setCell (p := ⟨w.heap.size, 0, none⟩) (Nat.le_refl _) _
            have hown : Own w 0 5 (.slice A1 f0.bs.length c1) f0.bs := by have := H.out.byt f0 HF0.out; rw [EV.out] at this; exact this
            have hfin8 : Rd (W7.setCell ⟨w.heap.size, 0, none⟩ (.slice A7 n7 c7)) w.heap.size (.slice A7 n7 c7) ⟨S.cap, -1, false, 0⟩ (R1 ++ [fr]) := ⟨hq7.set_ 0 _, HO7.out.kept hk8 (fun i hi e => (HF7.out i hi).2 e), fun f hf => by
              rcases List.mem_append.1 hf with hf | hf
              · exact ((HR3.out.byt f hf).kept hS7 (fun i hi e => (HR3.out.bytq hf i hi).2 e)).kept hk8 (fun i hi e => (HR3.out.bytq hf i hi).1 e)
              · obtain rfl : f = fr := by simpa using hf
                rw [HFR.out]
                exact (hown.below hbw8 (Nat.le_refl _)).front nn HNN.out⟩
            have HFIN := Lib.hid (And.intro hfin8 hbw8)
            refine tail_last (by kernel_rfl) rfl (by kernel_rfl) (fun K hK => ?_)
            go_simp
            refine hK.out _ _ ?_
            clear hK K
            try simp only [Act.put, List.setIfInBounds_toArray, List.set_cons_zero, List.set_cons_succ]
            clear fz fc hq7 hk8 hbw8 hown hfin8 hS7 hS6 HCC
            go_wp2
            go_round
            case rel =>
              refine ⟨j + 1, kk2, _, R1 ++ [fr], HLT.out, HKK2.out, by go_num, int_eq' (by rw [HZK.out]; omega), ?_, ?_, HFIN.out.1, HFIN.out.2, fun i hi => (HF7.out i hi).1, fun f hf => ?_⟩
              · rw [HTS.out, restP_snoc, HRS.out]
                exact HKE.out.2
              · rw [HTS.out, crashP_snoc, pl_app, HPL.out, HRS.out, HFR.out, HSN.out]
                show _ ++ [(f0.nm, f0.bs.take nn, nn)] = _ ++ [(f0.nm, f0.bs.take (keptN f0.la f0.bs.length (kp.drop kk)).1, (keptN f0.la f0.bs.length (kp.drop kk)).1)]
                rw [HKE.out.1]
              · rcases List.mem_append.1 hf with hf | hf
                · exact HS1.out f hf
                · obtain rfl : f = fr := by simpa using hf
                  exact ⟨f0, HF0.out, fun i hi => by rw [EV.out]; rw [HFR.out] at hi; exact (own_block_front A1 nn f0.bs.length c1 c1).trans hi⟩
            case measure => simp [intOf]; omega
          · have hpd : decide (0 < kx) = false := decide_eq_false hp
            obtain ⟨nn, hnn⟩ : ∃ nn, nn = f0.la := ⟨_, rfl⟩
            obtain ⟨kk2, hkk2⟩ : ∃ kk2, kk2 = kk + 1 := ⟨_, rfl⟩
            rw [← hkk2] at HKK2
            have HZK := Lib.hid hkk2
            have HNN := Lib.hid (show nn ≤ f0.bs.length by omega)
            have HKE := Lib.hid (show (keptN f0.la f0.bs.length (kp.drop kk)).1 = nn ∧ (keptN f0.la f0.bs.length (kp.drop kk)).2 = kp.drop kk2 from ⟨by rw [hdr, keptN_cons hll, show max kx 0 = 0 by omega, hnn]; simp, by rw [hdr, keptN_cons hll, hkk2]⟩)
            rw [← hnn] at y3 hw1 hkc1
            have hnn1 : nn ≤ c1 := by have := HNN.out; omega
            have HLN := Lib.hid hnn
            clear hla hbl hkx hkk2 hdr hll hnn
            have hnc : nn ≤ c1 := by have := HNN.out; omega
            have hsz1 := HB1.out.size
            have hb3 : Below wr.heap.size wr (wr.alloc (.cells #[.string sn, .slice A1 nn c1, .int .i64 (nn : Int)] 73)) := al1 wr _
            have hbd3 : Below wr.heap.size wr (wr.alloc (.cells #[.string sn, .slice A1 nn c1, .int .i64 (nn : Int)] 73)).drew := hb3.trans ((Below.refl _ _).drew.mono hb3.size)
            have HR3 := Lib.hid (H1.out.below hbd3)
            have HBW3 := Lib.hid (HB1.out.trans (hbd3.mono HB1.out.size))
            obtain ⟨b8, hb8⟩ : ∃ b8, b8 = wr.heap.size := ⟨_, rfl⟩
            have HB8 := Lib.hid hb8
            have HBK := Lib.hid (show Blk (wr.alloc (.cells #[.string sn, .slice A1 nn c1, .int .i64 (nn : Int)] 73)).drew b8 73 #[.string sn, .slice A1 nn c1, .int .i64 (nn : Int)] by rw [hb8]; exact Blk.new wr _ _)
            clear hb3 hbd3 hb8
            go_wp2_with fail
            rw [← HB8.out]
            obtain ⟨W0, hW0⟩ : ∃ W0, W0 = (wr.alloc (.cells #[.string sn, .slice A1 nn c1, .int .i64 (nn : Int)] 73)).drew := ⟨_, rfl⟩
            have HCC := Lib.hid (show ∀ X, Keep (fun i => v1.ownBlock = some i) (wr.alloc (.cells #[.string sn, .slice A1 nn c1, .int .i64 (nn : Int)] 73)).drew X → X.cell? ⟨w.heap.size, 0, none⟩ = some (.slice A5 n5 c5) ∧ X.cell? ⟨b8, 0, none⟩ = some (.string sn) ∧ X.cell? ⟨b8, 1, none⟩ = some (.slice A1 nn c1) ∧ X.cell? ⟨b8, 2, none⟩ = some (.int .i64 (nn : Int)) from fun X hX => by
              have hq := HR3.out.blk.kept hX (fun e => HR3.out.rowq _ e rfl)
              have hB := HBK.out.kept hX (fun e => by have := (H1.out.row.lt _ e).2; have := HB8.out; omega)
              exact ⟨by rw [hq.cell, HV1.out]; rfl, by rw [hB.cell]; rfl, by rw [hB.cell]; rfl, by rw [hB.cell]; rfl⟩)
            refine tail_begin 10 (S := fun X => Keep (fun i => v1.ownBlock = some i) (wr.alloc (.cells #[.string sn, .slice A1 nn c1, .int .i64 (nn : Int)] 73)).drew X) hfo (by kernel_rfl) (Keep.refl _ _) (fun hS0 => ?_)
            rw [← hW0] at hS0 HCC HR3 HBW3 HBK
            rw [← hW0]
            clear hW0 x0
            refine' tail_take (i := 0) (oi := ⟨some 72, _, _, _, _, _⟩) (v := _) rfl (by kernel_rfl) (by kernel_rfl) (by decide) (fun _ _ _ h => h) (Or.inl ⟨by rfl, ?y0c⟩) hS0 ?r0c
            case y0c => (intro w' hSw; obtain ⟨s0, s1, s2, s3⟩ := HCC.out w' hSw; go_simp; try rfl)
            try simp only [Act.put, List.setIfInBounds_toArray, List.set_cons_zero, List.set_cons_succ]
            refine' tail_take (i := 1) (oi := ⟨some 73, _, _, _, _, _⟩) (v := _) rfl (by kernel_rfl) (by kernel_rfl) (by decide) (fun _ _ _ h => h) (Or.inl ⟨by rfl, ?y1c⟩) hS0 ?r1c
            case y1c => (intro w' hSw; obtain ⟨s0, s1, s2, s3⟩ := HCC.out w' hSw; go_simp; try rfl)
            try simp only [Act.put, List.setIfInBounds_toArray, List.set_cons_zero, List.set_cons_succ]
            refine' tail_take (i := 2) (oi := ⟨some 74, _, _, _, _, _⟩) (v := _) rfl (by kernel_rfl) (by kernel_rfl) (by decide) (fun _ _ _ h => h) (Or.inl ⟨by rfl, ?y2c⟩) hS0 ?r2c
            case y2c => (intro w' hSw; obtain ⟨s0, s1, s2, s3⟩ := HCC.out w' hSw; go_simp; try rfl)
            try simp only [Act.put, List.setIfInBounds_toArray, List.set_cons_zero, List.set_cons_succ]
            refine' tail_take (i := 3) (oi := ⟨some 75, _, _, _, _, _⟩) (v := _) rfl (by kernel_rfl) (by kernel_rfl) (by decide) (fun _ _ _ h => h) (Or.inl ⟨by rfl, ?y3c⟩) hS0 ?r3c
            case y3c => (intro w' hSw; obtain ⟨s0, s1, s2, s3⟩ := HCC.out w' hSw; go_simp; try rfl)
            try simp only [Act.put, List.setIfInBounds_toArray, List.set_cons_zero, List.set_cons_succ]
            refine' tail_take (i := 4) (oi := ⟨some 76, _, _, _, _, _⟩) (v := _) rfl (by kernel_rfl) (by kernel_rfl) (by decide) (fun _ _ _ h => h) (Or.inl ⟨by rfl, ?y4c⟩) hS0 ?r4c
            case y4c => (intro w' hSw; obtain ⟨s0, s1, s2, s3⟩ := HCC.out w' hSw; go_simp; try rfl)
            try simp only [Act.put, List.setIfInBounds_toArray, List.set_cons_zero, List.set_cons_succ]
            refine' tail_take (i := 5) (oi := ⟨some 77, _, _, _, _, _⟩) (v := _) rfl (by kernel_rfl) (by kernel_rfl) (by decide) (fun _ _ _ h => h) (Or.inl ⟨by rfl, ?y5c⟩) hS0 ?r5c
            case y5c => (intro w' hSw; obtain ⟨s0, s1, s2, s3⟩ := HCC.out w' hSw; go_simp; try rfl)
            try simp only [Act.put, List.setIfInBounds_toArray, List.set_cons_zero, List.set_cons_succ]
            obtain ⟨fr, hfr⟩ : ∃ fr : Fr, fr = ⟨sn.data.toList, f0.bs.take nn, nn, .slice A1 nn c1⟩ := ⟨_, rfl⟩
            have HFR := Lib.hid hfr
            have hone1 : ∀ f ∈ [fr], f.v.oneCell' = true := by
              intro f hf
              have e : f = fr := by simpa using hf
              rw [e, hfr]
              rfl
            have hS6 : Keep (fun i => v1.ownBlock = some i) W0 (W0.alloc (.cells #[.string sn, .slice A1 nn c1, .int .i64 (nn : Int)] 73)) := Keep.of_below (al1 W0 _)
            have hs58 : SlF (W0.alloc (.cells #[.string sn, .slice A1 nn c1, .int .i64 (nn : Int)] 73)) (.slice (some ⟨W0.heap.size, 0, none⟩) 1 1) [fr] := by rw [HFR.out]; exact SlF.one W0 sn _ _ _
            have ho1 : OwnF (W0.alloc (.cells #[.string sn, .slice A1 nn c1, .int .i64 (nn : Int)] 73)) 0 v1 R1 := HR3.out.row.alloc _
            have hbw6 : Below w.heap.size w (W0.alloc (.cells #[.string sn, .slice A1 nn c1, .int .i64 (nn : Int)] 73)) := HBW3.out.alloc HBW3.out.size _
            have hlt6 : w.heap.size < (W0.alloc (.cells #[.string sn, .slice A1 nn c1, .int .i64 (nn : Int)] 73)).heap.size := by have := HBW3.out.size; simp; omega
            rw [HV1.out] at ho1
            refine tail_one (i := 6) (by kernel_rfl) rfl (by decide) (fun K hK => ?_)
            go_simp
            refine hK.out _ _ hS6 (fun _ => ?_)
            clear hK K
            try simp only [Act.put, List.setIfInBounds_toArray, List.set_cons_zero, List.set_cons_succ]
            generalize hW6 : W0.alloc (.cells #[.string sn, .slice A1 nn c1, .int .i64 (nn : Int)] 73) = W6 at hS6 hs58 ho1 hbw6 hlt6 ⊢
            clear hW6
            clear hfr
            refine tail_one (i := 7) (by kernel_rfl) rfl (by decide) (fun K hK => ?_)
            refine step_append_files W6 rfl (.tmp 76) (.tmp 78) 31 rfl 0 i0 Try.underlying31 hif hz0 hz1 hz2 _ _ rfl ho1 _ [fr] rfl hs58 hone1 (by have := HLR.out; simp only [List.length_singleton]; omega) (Nat.zero_le _) ?_
            intro v7 W7 ho7 hgr7 hloc7
            rw [← HV1.out] at hgr7 hloc7
            have hS7 : Keep (fun i => v1.ownBlock = some i) W0 W7 := hS6.trans (Keep.of_grown (S := fun i => v1.ownBlock = some i) hgr7 (fun k e => e)) (fun _ h => h) (fun _ _ h => h)
            have hbw7 : Below w.heap.size w W7 := hbw6.grown hgr7 hbw6.size HF1.out
            have hf7 : ∀ i, v7.ownBlock = some i → w.heap.size ≤ i ∧ i ≠ w.heap.size := fun i hi => by
              rcases hloc7 with e | e
              · rw [e] at hi; exact ⟨HF1.out i hi, H1.out.rowq i hi⟩
              · rw [e] at hi; cases hi; exact ⟨by omega, by omega⟩
            obtain ⟨A7, n7, c7, hv7⟩ : ∃ A n c, v7 = .slice A n c := by obtain ⟨A, c, e, _⟩ := ho7.shape; exact ⟨A, _, c, e⟩
            subst hv7
            have HO7 := Lib.hid ho7
            have HF7 := Lib.hid hf7
            have HBW7 := Lib.hid hbw7
            clear hgr7 hloc7 ho7 hf7 hs58 hone1 ho1 hbw6 hlt6 hbw7
            refine hK.out _ _ hS7 (fun _ => ?_)
            clear hK K
            try simp only [Act.put, List.setIfInBounds_toArray, List.set_cons_zero, List.set_cons_succ]
            refine' tail_take (i := 8) (oi := ⟨some 80, _, _, _, _, _⟩) (v := _) rfl (by kernel_rfl) (by kernel_rfl) (by decide) (fun _ _ _ h => h) (Or.inl ⟨by rfl, ?y8c⟩) hS7 ?r8c
            case y8c => (intro w' hSw; obtain ⟨s0, s1, s2, s3⟩ := HCC.out w' hSw; go_simp; try rfl)
            try simp only [Act.put, List.setIfInBounds_toArray, List.set_cons_zero, List.set_cons_succ]
            refine' tail_take (i := 9) (oi := ⟨some 81, _, _, _, _, _⟩) (v := _) rfl (by kernel_rfl) (by kernel_rfl) (by decide) (fun _ _ _ h => h) (Or.inl ⟨by rfl, ?y9c⟩) hS7 ?r9c
            case y9c => (intro w' hSw; obtain ⟨s0, s1, s2, s3⟩ := HCC.out w' hSw; go_simp; try rfl)
            try simp only [Act.put, List.setIfInBounds_toArray, List.set_cons_zero, List.set_cons_succ]
            have hq7 := HR3.out.blk.kept hS7 (fun e => HR3.out.rowq _ e rfl)
            have fz := hq7.frozen 0
            have fc : W7.cell? ⟨w.heap.size, 0, none⟩ = some (.slice A5 n5 c5) := (HCC.out W7 hS7).1
            have hk8 : Keep (fun i => i = w.heap.size) W7 (W7.setCell ⟨w.heap.size, 0, none⟩ (.slice A7 n7 c7)) := Keep.setCell _ _ _ rfl
            have hbw8 : Below w.heap.size w (W7.setCell ⟨w.heap.size, 0, none⟩ (.slice A7 n7 c7)) := HBW7.out.setCell (p := ⟨w.heap.size, 0, none⟩) (Nat.le_refl _) _
            have hown : Own w 0 5 (.slice A1 f0.bs.length c1) f0.bs := by have := H.out.byt f0 HF0.out; rw [EV.out] at this; exact this
            have hfin8 : Rd (W7.setCell ⟨w.heap.size, 0, none⟩ (.slice A7 n7 c7)) w.heap.size (.slice A7 n7 c7) ⟨S.cap, -1, false, 0⟩ (R1 ++ [fr]) := ⟨hq7.set_ 0 _, HO7.out.kept hk8 (fun i hi e => (HF7.out i hi).2 e), fun f hf => by
              rcases List.mem_append.1 hf with hf | hf
              · exact ((HR3.out.byt f hf).kept hS7 (fun i hi e => (HR3.out.bytq hf i hi).2 e)).kept hk8 (fun i hi e => (HR3.out.bytq hf i hi).1 e)
              · obtain rfl : f = fr := by simpa using hf
                rw [HFR.out]
                exact (hown.below hbw8 (Nat.le_refl _)).front nn HNN.out⟩
            have HFIN := Lib.hid (And.intro hfin8 hbw8)
            refine tail_last (by kernel_rfl) rfl (by kernel_rfl) (fun K hK => ?_)
            go_simp
            refine hK.out _ _ ?_
            clear hK K
            try simp only [Act.put, List.setIfInBounds_toArray, List.set_cons_zero, List.set_cons_succ]
            clear fz fc hq7 hk8 hbw8 hown hfin8 hS7 hS6 HCC
            go_wp2
            go_round
            case rel =>
              refine ⟨j + 1, kk2, _, R1 ++ [fr], HLT.out, HKK2.out, by go_num, int_eq' (by rw [HZK.out]; omega), ?_, ?_, HFIN.out.1, HFIN.out.2, fun i hi => (HF7.out i hi).1, fun f hf => ?_⟩
              · rw [HTS.out, restP_snoc, HRS.out]
                exact HKE.out.2
              · rw [HTS.out, crashP_snoc, pl_app, HPL.out, HRS.out, HFR.out, HSN.out]
                show _ ++ [(f0.nm, f0.bs.take nn, nn)] = _ ++ [(f0.nm, f0.bs.take (keptN f0.la f0.bs.length (kp.drop kk)).1, (keptN f0.la f0.bs.length (kp.drop kk)).1)]
                rw [HKE.out.1]
              · rcases List.mem_append.1 hf with hf | hf
                · exact HS1.out f hf
                · obtain rfl : f = fr := by simpa using hf
                  exact ⟨f0, HF0.out, fun i hi => by rw [EV.out]; rw [HFR.out] at hi; exact (own_block_front A1 nn f0.bs.length c1 c1).trans hi⟩
            case measure => simp [intOf]; omega
        · have hklI : ¬ (kk : Int) < (kp.length : Int) := by omega
          have hklD : decide (kk < kp.length) = false := decide_eq_false hkl
          have hdr : kp.drop kk = [] := List.drop_eq_nil_of_le (by omega)
          have hdr2 : kp.drop (kk + 1) = [] := List.drop_eq_nil_of_le (by omega)
          have HKK2 := Lib.hid (show kk + 1 ≤ j + 1 by omega)
          obtain ⟨A5, c5, hv1, _, _⟩ := H1.out.row.shape
          obtain ⟨n5, hn5⟩ : ∃ n5, n5 = R1.length := ⟨_, rfl⟩
          rw [← hn5] at hv1
          have HV1 := Lib.hid hv1
          have HLR := Lib.hid (show R1.length + 1 ≤ 65 by have h1 := congrArg List.length HPL.out; rw [pl_len, crashP_len, List.length_take, pl_len] at h1; have := HL.out; omega)
          clear hv1 hn5
          obtain ⟨nn, hnn⟩ : ∃ nn, nn = f0.la := ⟨_, rfl⟩
          obtain ⟨kk2, hkk2⟩ : ∃ kk2, kk2 = kk + 1 := ⟨_, rfl⟩
          rw [← hkk2] at HKK2
          have HZK := Lib.hid hkk2
          have HNN := Lib.hid (show nn ≤ f0.bs.length by omega)
          have HKE := Lib.hid (show (keptN f0.la f0.bs.length (kp.drop kk)).1 = nn ∧ (keptN f0.la f0.bs.length (kp.drop kk)).2 = kp.drop kk2 from ⟨by rw [hdr, keptN_nil, hnn], by rw [hdr, keptN_nil, hkk2, hdr2]⟩)
          rw [← hnn] at y3 hw1
          have hnn1 : nn ≤ c1 := by have := HNN.out; omega
          have HLN := Lib.hid hnn
          clear hla hbl hkk2 hdr hdr2 hnn
          have hnc : nn ≤ c1 := by have := HNN.out; omega
          have hsz1 := HB1.out.size
          have hb3 : Below wr.heap.size wr (wr.alloc (.cells #[.string sn, .slice A1 nn c1, .int .i64 (nn : Int)] 73)) := al1 wr _
          have hbd3 : Below wr.heap.size wr (wr.alloc (.cells #[.string sn, .slice A1 nn c1, .int .i64 (nn : Int)] 73)).drew := hb3.trans ((Below.refl _ _).drew.mono hb3.size)
          have HR3 := Lib.hid (H1.out.below hbd3)
          have HBW3 := Lib.hid (HB1.out.trans (hbd3.mono HB1.out.size))
          obtain ⟨b8, hb8⟩ : ∃ b8, b8 = wr.heap.size := ⟨_, rfl⟩
          have HB8 := Lib.hid hb8
          have HBK := Lib.hid (show Blk (wr.alloc (.cells #[.string sn, .slice A1 nn c1, .int .i64 (nn : Int)] 73)).drew b8 73 #[.string sn, .slice A1 nn c1, .int .i64 (nn : Int)] by rw [hb8]; exact Blk.new wr _ _)
          clear hb3 hbd3 hb8
          go_wp2_with fail
          rw [← HB8.out]
          obtain ⟨W0, hW0⟩ : ∃ W0, W0 = (wr.alloc (.cells #[.string sn, .slice A1 nn c1, .int .i64 (nn : Int)] 73)).drew := ⟨_, rfl⟩
          have HCC := Lib.hid (show ∀ X, Keep (fun i => v1.ownBlock = some i) (wr.alloc (.cells #[.string sn, .slice A1 nn c1, .int .i64 (nn : Int)] 73)).drew X → X.cell? ⟨w.heap.size, 0, none⟩ = some (.slice A5 n5 c5) ∧ X.cell? ⟨b8, 0, none⟩ = some (.string sn) ∧ X.cell? ⟨b8, 1, none⟩ = some (.slice A1 nn c1) ∧ X.cell? ⟨b8, 2, none⟩ = some (.int .i64 (nn : Int)) from fun X hX => by
            have hq := HR3.out.blk.kept hX (fun e => HR3.out.rowq _ e rfl)
            have hB := HBK.out.kept hX (fun e => by have := (H1.out.row.lt _ e).2; have := HB8.out; omega)
            exact ⟨by rw [hq.cell, HV1.out]; rfl, by rw [hB.cell]; rfl, by rw [hB.cell]; rfl, by rw [hB.cell]; rfl⟩)
          refine tail_begin 10 (S := fun X => Keep (fun i => v1.ownBlock = some i) (wr.alloc (.cells #[.string sn, .slice A1 nn c1, .int .i64 (nn : Int)] 73)).drew X) hfo (by kernel_rfl) (Keep.refl _ _) (fun hS0 => ?_)
          rw [← hW0] at hS0 HCC HR3 HBW3 HBK
          rw [← hW0]
          clear hW0 x0
          refine' tail_take (i := 0) (oi := ⟨some 72, _, _, _, _, _⟩) (v := _) rfl (by kernel_rfl) (by kernel_rfl) (by decide) (fun _ _ _ h => h) (Or.inl ⟨by rfl, ?y0b⟩) hS0 ?r0b
          case y0b => (intro w' hSw; obtain ⟨s0, s1, s2, s3⟩ := HCC.out w' hSw; go_simp; try rfl)
          try simp only [Act.put, List.setIfInBounds_toArray, List.set_cons_zero, List.set_cons_succ]
          refine' tail_take (i := 1) (oi := ⟨some 73, _, _, _, _, _⟩) (v := _) rfl (by kernel_rfl) (by kernel_rfl) (by decide) (fun _ _ _ h => h) (Or.inl ⟨by rfl, ?y1b⟩) hS0 ?r1b
          case y1b => (intro w' hSw; obtain ⟨s0, s1, s2, s3⟩ := HCC.out w' hSw; go_simp; try rfl)
          try simp only [Act.put, List.setIfInBounds_toArray, List.set_cons_zero, List.set_cons_succ]
          refine' tail_take (i := 2) (oi := ⟨some 74, _, _, _, _, _⟩) (v := _) rfl (by kernel_rfl) (by kernel_rfl) (by decide) (fun _ _ _ h => h) (Or.inl ⟨by rfl, ?y2b⟩) hS0 ?r2b
          case y2b => (intro w' hSw; obtain ⟨s0, s1, s2, s3⟩ := HCC.out w' hSw; go_simp; try rfl)
          try simp only [Act.put, List.setIfInBounds_toArray, List.set_cons_zero, List.set_cons_succ]
          refine' tail_take (i := 3) (oi := ⟨some 75, _, _, _, _, _⟩) (v := _) rfl (by kernel_rfl) (by kernel_rfl) (by decide) (fun _ _ _ h => h) (Or.inl ⟨by rfl, ?y3b⟩) hS0 ?r3b
          case y3b => (intro w' hSw; obtain ⟨s0, s1, s2, s3⟩ := HCC.out w' hSw; go_simp; try rfl)
          try simp only [Act.put, List.setIfInBounds_toArray, List.set_cons_zero, List.set_cons_succ]
          refine' tail_take (i := 4) (oi := ⟨some 76, _, _, _, _, _⟩) (v := _) rfl (by kernel_rfl) (by kernel_rfl) (by decide) (fun _ _ _ h => h) (Or.inl ⟨by rfl, ?y4b⟩) hS0 ?r4b
          case y4b => (intro w' hSw; obtain ⟨s0, s1, s2, s3⟩ := HCC.out w' hSw; go_simp; try rfl)
          try simp only [Act.put, List.setIfInBounds_toArray, List.set_cons_zero, List.set_cons_succ]
          refine' tail_take (i := 5) (oi := ⟨some 77, _, _, _, _, _⟩) (v := _) rfl (by kernel_rfl) (by kernel_rfl) (by decide) (fun _ _ _ h => h) (Or.inl ⟨by rfl, ?y5b⟩) hS0 ?r5b
          case y5b => (intro w' hSw; obtain ⟨s0, s1, s2, s3⟩ := HCC.out w' hSw; go_simp; try rfl)
          try simp only [Act.put, List.setIfInBounds_toArray, List.set_cons_zero, List.set_cons_succ]
          obtain ⟨fr, hfr⟩ : ∃ fr : Fr, fr = ⟨sn.data.toList, f0.bs.take nn, nn, .slice A1 nn c1⟩ := ⟨_, rfl⟩
          have HFR := Lib.hid hfr
          have hone1 : ∀ f ∈ [fr], f.v.oneCell' = true := by
            intro f hf
            have e : f = fr := by simpa using hf
            rw [e, hfr]
            rfl
          have hS6 : Keep (fun i => v1.ownBlock = some i) W0 (W0.alloc (.cells #[.string sn, .slice A1 nn c1, .int .i64 (nn : Int)] 73)) := Keep.of_below (al1 W0 _)
          have hs58 : SlF (W0.alloc (.cells #[.string sn, .slice A1 nn c1, .int .i64 (nn : Int)] 73)) (.slice (some ⟨W0.heap.size, 0, none⟩) 1 1) [fr] := by rw [HFR.out]; exact SlF.one W0 sn _ _ _
          have ho1 : OwnF (W0.alloc (.cells #[.string sn, .slice A1 nn c1, .int .i64 (nn : Int)] 73)) 0 v1 R1 := HR3.out.row.alloc _
          have hbw6 : Below w.heap.size w (W0.alloc (.cells #[.string sn, .slice A1 nn c1, .int .i64 (nn : Int)] 73)) := HBW3.out.alloc HBW3.out.size _
          have hlt6 : w.heap.size < (W0.alloc (.cells #[.string sn, .slice A1 nn c1, .int .i64 (nn : Int)] 73)).heap.size := by have := HBW3.out.size; simp; omega
          rw [HV1.out] at ho1
          refine tail_one (i := 6) (by kernel_rfl) rfl (by decide) (fun K hK => ?_)
          go_simp
          refine hK.out _ _ hS6 (fun _ => ?_)
          clear hK K
          try simp only [Act.put, List.setIfInBounds_toArray, List.set_cons_zero, List.set_cons_succ]
          generalize hW6 : W0.alloc (.cells #[.string sn, .slice A1 nn c1, .int .i64 (nn : Int)] 73) = W6 at hS6 hs58 ho1 hbw6 hlt6 ⊢
          clear hW6
          clear hfr
          refine tail_one (i := 7) (by kernel_rfl) rfl (by decide) (fun K hK => ?_)
          refine step_append_files W6 rfl (.tmp 76) (.tmp 78) 31 rfl 0 i0 Try.underlying31 hif hz0 hz1 hz2 _ _ rfl ho1 _ [fr] rfl hs58 hone1 (by have := HLR.out; simp only [List.length_singleton]; omega) (Nat.zero_le _) ?_
          intro v7 W7 ho7 hgr7 hloc7
          rw [← HV1.out] at hgr7 hloc7
          have hS7 : Keep (fun i => v1.ownBlock = some i) W0 W7 := hS6.trans (Keep.of_grown (S := fun i => v1.ownBlock = some i) hgr7 (fun k e => e)) (fun _ h => h) (fun _ _ h => h)
          have hbw7 : Below w.heap.size w W7 := hbw6.grown hgr7 hbw6.size HF1.out
          have hf7 : ∀ i, v7.ownBlock = some i → w.heap.size ≤ i ∧ i ≠ w.heap.size := fun i hi => by
            rcases hloc7 with e | e
            · rw [e] at hi; exact ⟨HF1.out i hi, H1.out.rowq i hi⟩
            · rw [e] at hi; cases hi; exact ⟨by omega, by omega⟩
          obtain ⟨A7, n7, c7, hv7⟩ : ∃ A n c, v7 = .slice A n c := by obtain ⟨A, c, e, _⟩ := ho7.shape; exact ⟨A, _, c, e⟩
          subst hv7
          have HO7 := Lib.hid ho7
          have HF7 := Lib.hid hf7
          have HBW7 := Lib.hid hbw7
          clear hgr7 hloc7 ho7 hf7 hs58 hone1 ho1 hbw6 hlt6 hbw7
          refine hK.out _ _ hS7 (fun _ => ?_)
          clear hK K
          try simp only [Act.put, List.setIfInBounds_toArray, List.set_cons_zero, List.set_cons_succ]
          refine' tail_take (i := 8) (oi := ⟨some 80, _, _, _, _, _⟩) (v := _) rfl (by kernel_rfl) (by kernel_rfl) (by decide) (fun _ _ _ h => h) (Or.inl ⟨by rfl, ?y8b⟩) hS7 ?r8b
          case y8b => (intro w' hSw; obtain ⟨s0, s1, s2, s3⟩ := HCC.out w' hSw; go_simp; try rfl)
          try simp only [Act.put, List.setIfInBounds_toArray, List.set_cons_zero, List.set_cons_succ]
          refine' tail_take (i := 9) (oi := ⟨some 81, _, _, _, _, _⟩) (v := _) rfl (by kernel_rfl) (by kernel_rfl) (by decide) (fun _ _ _ h => h) (Or.inl ⟨by rfl, ?y9b⟩) hS7 ?r9b
          case y9b => (intro w' hSw; obtain ⟨s0, s1, s2, s3⟩ := HCC.out w' hSw; go_simp; try rfl)
          try simp only [Act.put, List.setIfInBounds_toArray, List.set_cons_zero, List.set_cons_succ]
          have hq7 := HR3.out.blk.kept hS7 (fun e => HR3.out.rowq _ e rfl)
          have fz := hq7.frozen 0
          have fc : W7.cell? ⟨w.heap.size, 0, none⟩ = some (.slice A5 n5 c5) := (HCC.out W7 hS7).1
          have hk8 : Keep (fun i => i = w.heap.size) W7 (W7.setCell ⟨w.heap.size, 0, none⟩ (.slice A7 n7 c7)) := Keep.setCell _ _ _ rfl
          have hbw8 : Below w.heap.size w (W7.setCell ⟨w.heap.size, 0, none⟩ (.slice A7 n7 c7)) := HBW7.out.setCell (p := ⟨w.heap.size, 0, none⟩) (Nat.le_refl _) _
          have hown : Own w 0 5 (.slice A1 f0.bs.length c1) f0.bs := by have := H.out.byt f0 HF0.out; rw [EV.out] at this; exact this
          have hfin8 : Rd (W7.setCell ⟨w.heap.size, 0, none⟩ (.slice A7 n7 c7)) w.heap.size (.slice A7 n7 c7) ⟨S.cap, -1, false, 0⟩ (R1 ++ [fr]) := ⟨hq7.set_ 0 _, HO7.out.kept hk8 (fun i hi e => (HF7.out i hi).2 e), fun f hf => by
            rcases List.mem_append.1 hf with hf | hf
            · exact ((HR3.out.byt f hf).kept hS7 (fun i hi e => (HR3.out.bytq hf i hi).2 e)).kept hk8 (fun i hi e => (HR3.out.bytq hf i hi).1 e)
            · obtain rfl : f = fr := by simpa using hf
              rw [HFR.out]
              exact (hown.below hbw8 (Nat.le_refl _)).front nn HNN.out⟩
          have HFIN := Lib.hid (And.intro hfin8 hbw8)
          refine tail_last (by kernel_rfl) rfl (by kernel_rfl) (fun K hK => ?_)
          go_simp
          refine hK.out _ _ ?_
          clear hK K
          try simp only [Act.put, List.setIfInBounds_toArray, List.set_cons_zero, List.set_cons_succ]
          clear fz fc hq7 hk8 hbw8 hown hfin8 hS7 hS6 HCC
          go_wp2
          go_round
          case rel =>
            refine ⟨j + 1, kk2, _, R1 ++ [fr], HLT.out, HKK2.out, by go_num, int_eq' (by rw [HZK.out]; omega), ?_, ?_, HFIN.out.1, HFIN.out.2, fun i hi => (HF7.out i hi).1, fun f hf => ?_⟩
            · rw [HTS.out, restP_snoc, HRS.out]
              exact HKE.out.2
            · rw [HTS.out, crashP_snoc, pl_app, HPL.out, HRS.out, HFR.out, HSN.out]
              show _ ++ [(f0.nm, f0.bs.take nn, nn)] = _ ++ [(f0.nm, f0.bs.take (keptN f0.la f0.bs.length (kp.drop kk)).1, (keptN f0.la f0.bs.length (kp.drop kk)).1)]
              rw [HKE.out.1]
            · rcases List.mem_append.1 hf with hf | hf
              · exact HS1.out f hf
              · obtain rfl : f = fr := by simpa using hf
                exact ⟨f0, HF0.out, fun i hi => by rw [EV.out]; rw [HFR.out] at hi; exact (own_block_front A1 nn f0.bs.length c1 c1).trans hi⟩
          case measure => simp [intOf]; omega
      · have hld : decide (0 < lo) = false := decide_eq_false hloose
        have hll : ¬ f0.la < f0.bs.length := by have := HLA.out; omega
        have HKK2 := Lib.hid (show kk ≤ j + 1 by omega)
        obtain ⟨A5, c5, hv1, _, _⟩ := H1.out.row.shape
        obtain ⟨n5, hn5⟩ : ∃ n5, n5 = R1.length := ⟨_, rfl⟩
        rw [← hn5] at hv1
        have HV1 := Lib.hid hv1
        have HLR := Lib.hid (show R1.length + 1 ≤ 65 by have h1 := congrArg List.length HPL.out; rw [pl_len, crashP_len, List.length_take, pl_len] at h1; have := HL.out; omega)
        clear hv1 hn5
        obtain ⟨nn, hnn⟩ : ∃ nn, nn = f0.la := ⟨_, rfl⟩
        obtain ⟨kk2, hkk2⟩ : ∃ kk2, kk2 = kk := ⟨_, rfl⟩
        rw [← hkk2] at HKK2
        have HZK := Lib.hid hkk2
        have HNN := Lib.hid (show nn ≤ f0.bs.length by omega)
        have HKE := Lib.hid (show (keptN f0.la f0.bs.length (kp.drop kk)).1 = nn ∧ (keptN f0.la f0.bs.length (kp.drop kk)).2 = kp.drop kk2 from ⟨by rw [keptN_none hll, hnn], by rw [keptN_none hll, hkk2]⟩)
        rw [← hnn] at y3 hw1
        have hnn1 : nn ≤ c1 := by have := HNN.out; omega
        have HLN := Lib.hid hnn
        clear hla hbl hkk2 hll hnn
        have hnc : nn ≤ c1 := by have := HNN.out; omega
        have hsz1 := HB1.out.size
        have hb3 : Below wr.heap.size wr (wr.alloc (.cells #[.string sn, .slice A1 nn c1, .int .i64 (nn : Int)] 73)) := al1 wr _
        have hbd3 : Below wr.heap.size wr (wr.alloc (.cells #[.string sn, .slice A1 nn c1, .int .i64 (nn : Int)] 73)).drew := hb3.trans ((Below.refl _ _).drew.mono hb3.size)
        have HR3 := Lib.hid (H1.out.below hbd3)
        have HBW3 := Lib.hid (HB1.out.trans (hbd3.mono HB1.out.size))
        obtain ⟨b8, hb8⟩ : ∃ b8, b8 = wr.heap.size := ⟨_, rfl⟩
        have HB8 := Lib.hid hb8
        have HBK := Lib.hid (show Blk (wr.alloc (.cells #[.string sn, .slice A1 nn c1, .int .i64 (nn : Int)] 73)).drew b8 73 #[.string sn, .slice A1 nn c1, .int .i64 (nn : Int)] by rw [hb8]; exact Blk.new wr _ _)
        clear hb3 hbd3 hb8
        go_wp2_with fail
        rw [← HB8.out]
        obtain ⟨W0, hW0⟩ : ∃ W0, W0 = (wr.alloc (.cells #[.string sn, .slice A1 nn c1, .int .i64 (nn : Int)] 73)).drew := ⟨_, rfl⟩
        have HCC := Lib.hid (show ∀ X, Keep (fun i => v1.ownBlock = some i) (wr.alloc (.cells #[.string sn, .slice A1 nn c1, .int .i64 (nn : Int)] 73)).drew X → X.cell? ⟨w.heap.size, 0, none⟩ = some (.slice A5 n5 c5) ∧ X.cell? ⟨b8, 0, none⟩ = some (.string sn) ∧ X.cell? ⟨b8, 1, none⟩ = some (.slice A1 nn c1) ∧ X.cell? ⟨b8, 2, none⟩ = some (.int .i64 (nn : Int)) from fun X hX => by
          have hq := HR3.out.blk.kept hX (fun e => HR3.out.rowq _ e rfl)
          have hB := HBK.out.kept hX (fun e => by have := (H1.out.row.lt _ e).2; have := HB8.out; omega)
          exact ⟨by rw [hq.cell, HV1.out]; rfl, by rw [hB.cell]; rfl, by rw [hB.cell]; rfl, by rw [hB.cell]; rfl⟩)
        refine tail_begin 10 (S := fun X => Keep (fun i => v1.ownBlock = some i) (wr.alloc (.cells #[.string sn, .slice A1 nn c1, .int .i64 (nn : Int)] 73)).drew X) hfo (by kernel_rfl) (Keep.refl _ _) (fun hS0 => ?_)
        rw [← hW0] at hS0 HCC HR3 HBW3 HBK
        rw [← hW0]
        clear hW0 x0
        refine' tail_take (i := 0) (oi := ⟨some 72, _, _, _, _, _⟩) (v := _) rfl (by kernel_rfl) (by kernel_rfl) (by decide) (fun _ _ _ h => h) (Or.inl ⟨by rfl, ?y0a⟩) hS0 ?r0a
        case y0a => (intro w' hSw; obtain ⟨s0, s1, s2, s3⟩ := HCC.out w' hSw; go_simp; try rfl)
        try simp only [Act.put, List.setIfInBounds_toArray, List.set_cons_zero, List.set_cons_succ]
        refine' tail_take (i := 1) (oi := ⟨some 73, _, _, _, _, _⟩) (v := _) rfl (by kernel_rfl) (by kernel_rfl) (by decide) (fun _ _ _ h => h) (Or.inl ⟨by rfl, ?y1a⟩) hS0 ?r1a
        case y1a => (intro w' hSw; obtain ⟨s0, s1, s2, s3⟩ := HCC.out w' hSw; go_simp; try rfl)
        try simp only [Act.put, List.setIfInBounds_toArray, List.set_cons_zero, List.set_cons_succ]
        refine' tail_take (i := 2) (oi := ⟨some 74, _, _, _, _, _⟩) (v := _) rfl (by kernel_rfl) (by kernel_rfl) (by decide) (fun _ _ _ h => h) (Or.inl ⟨by rfl, ?y2a⟩) hS0 ?r2a
        case y2a => (intro w' hSw; obtain ⟨s0, s1, s2, s3⟩ := HCC.out w' hSw; go_simp; try rfl)
        try simp only [Act.put, List.setIfInBounds_toArray, List.set_cons_zero, List.set_cons_succ]
        refine' tail_take (i := 3) (oi := ⟨some 75, _, _, _, _, _⟩) (v := _) rfl (by kernel_rfl) (by kernel_rfl) (by decide) (fun _ _ _ h => h) (Or.inl ⟨by rfl, ?y3a⟩) hS0 ?r3a
        case y3a => (intro w' hSw; obtain ⟨s0, s1, s2, s3⟩ := HCC.out w' hSw; go_simp; try rfl)
        try simp only [Act.put, List.setIfInBounds_toArray, List.set_cons_zero, List.set_cons_succ]
        refine' tail_take (i := 4) (oi := ⟨some 76, _, _, _, _, _⟩) (v := _) rfl (by kernel_rfl) (by kernel_rfl) (by decide) (fun _ _ _ h => h) (Or.inl ⟨by rfl, ?y4a⟩) hS0 ?r4a
        case y4a => (intro w' hSw; obtain ⟨s0, s1, s2, s3⟩ := HCC.out w' hSw; go_simp; try rfl)
        try simp only [Act.put, List.setIfInBounds_toArray, List.set_cons_zero, List.set_cons_succ]
        refine' tail_take (i := 5) (oi := ⟨some 77, _, _, _, _, _⟩) (v := _) rfl (by kernel_rfl) (by kernel_rfl) (by decide) (fun _ _ _ h => h) (Or.inl ⟨by rfl, ?y5a⟩) hS0 ?r5a
        case y5a => (intro w' hSw; obtain ⟨s0, s1, s2, s3⟩ := HCC.out w' hSw; go_simp; try rfl)
        try simp only [Act.put, List.setIfInBounds_toArray, List.set_cons_zero, List.set_cons_succ]
        obtain ⟨fr, hfr⟩ : ∃ fr : Fr, fr = ⟨sn.data.toList, f0.bs.take nn, nn, .slice A1 nn c1⟩ := ⟨_, rfl⟩
        have HFR := Lib.hid hfr
        have hone1 : ∀ f ∈ [fr], f.v.oneCell' = true := by
          intro f hf
          have e : f = fr := by simpa using hf
          rw [e, hfr]
          rfl
        have hS6 : Keep (fun i => v1.ownBlock = some i) W0 (W0.alloc (.cells #[.string sn, .slice A1 nn c1, .int .i64 (nn : Int)] 73)) := Keep.of_below (al1 W0 _)
        have hs58 : SlF (W0.alloc (.cells #[.string sn, .slice A1 nn c1, .int .i64 (nn : Int)] 73)) (.slice (some ⟨W0.heap.size, 0, none⟩) 1 1) [fr] := by rw [HFR.out]; exact SlF.one W0 sn _ _ _
        have ho1 : OwnF (W0.alloc (.cells #[.string sn, .slice A1 nn c1, .int .i64 (nn : Int)] 73)) 0 v1 R1 := HR3.out.row.alloc _
        have hbw6 : Below w.heap.size w (W0.alloc (.cells #[.string sn, .slice A1 nn c1, .int .i64 (nn : Int)] 73)) := HBW3.out.alloc HBW3.out.size _
        have hlt6 : w.heap.size < (W0.alloc (.cells #[.string sn, .slice A1 nn c1, .int .i64 (nn : Int)] 73)).heap.size := by have := HBW3.out.size; simp; omega
        rw [HV1.out] at ho1
        refine tail_one (i := 6) (by kernel_rfl) rfl (by decide) (fun K hK => ?_)
        go_simp
        refine hK.out _ _ hS6 (fun _ => ?_)
        clear hK K
        try simp only [Act.put, List.setIfInBounds_toArray, List.set_cons_zero, List.set_cons_succ]
        generalize hW6 : W0.alloc (.cells #[.string sn, .slice A1 nn c1, .int .i64 (nn : Int)] 73) = W6 at hS6 hs58 ho1 hbw6 hlt6 ⊢
        clear hW6
        clear hfr
        refine tail_one (i := 7) (by kernel_rfl) rfl (by decide) (fun K hK => ?_)
        refine step_append_files W6 rfl (.tmp 76) (.tmp 78) 31 rfl 0 i0 Try.underlying31 hif hz0 hz1 hz2 _ _ rfl ho1 _ [fr] rfl hs58 hone1 (by have := HLR.out; simp only [List.length_singleton]; omega) (Nat.zero_le _) ?_
        intro v7 W7 ho7 hgr7 hloc7
        rw [← HV1.out] at hgr7 hloc7
        have hS7 : Keep (fun i => v1.ownBlock = some i) W0 W7 := hS6.trans (Keep.of_grown (S := fun i => v1.ownBlock = some i) hgr7 (fun k e => e)) (fun _ h => h) (fun _ _ h => h)
        have hbw7 : Below w.heap.size w W7 := hbw6.grown hgr7 hbw6.size HF1.out
        have hf7 : ∀ i, v7.ownBlock = some i → w.heap.size ≤ i ∧ i ≠ w.heap.size := fun i hi => by
          rcases hloc7 with e | e
          · rw [e] at hi; exact ⟨HF1.out i hi, H1.out.rowq i hi⟩
          · rw [e] at hi; cases hi; exact ⟨by omega, by omega⟩
        obtain ⟨A7, n7, c7, hv7⟩ : ∃ A n c, v7 = .slice A n c := by obtain ⟨A, c, e, _⟩ := ho7.shape; exact ⟨A, _, c, e⟩
        subst hv7
        have HO7 := Lib.hid ho7
        have HF7 := Lib.hid hf7
        have HBW7 := Lib.hid hbw7
        clear hgr7 hloc7 ho7 hf7 hs58 hone1 ho1 hbw6 hlt6 hbw7
        refine hK.out _ _ hS7 (fun _ => ?_)
        clear hK K
        try simp only [Act.put, List.setIfInBounds_toArray, List.set_cons_zero, List.set_cons_succ]
        refine' tail_take (i := 8) (oi := ⟨some 80, _, _, _, _, _⟩) (v := _) rfl (by kernel_rfl) (by kernel_rfl) (by decide) (fun _ _ _ h => h) (Or.inl ⟨by rfl, ?y8a⟩) hS7 ?r8a
        case y8a => (intro w' hSw; obtain ⟨s0, s1, s2, s3⟩ := HCC.out w' hSw; go_simp; try rfl)
        try simp only [Act.put, List.setIfInBounds_toArray, List.set_cons_zero, List.set_cons_succ]
        refine' tail_take (i := 9) (oi := ⟨some 81, _, _, _, _, _⟩) (v := _) rfl (by kernel_rfl) (by kernel_rfl) (by decide) (fun _ _ _ h => h) (Or.inl ⟨by rfl, ?y9a⟩) hS7 ?r9a
        case y9a => (intro w' hSw; obtain ⟨s0, s1, s2, s3⟩ := HCC.out w' hSw; go_simp; try rfl)
        try simp only [Act.put, List.setIfInBounds_toArray, List.set_cons_zero, List.set_cons_succ]
        have hq7 := HR3.out.blk.kept hS7 (fun e => HR3.out.rowq _ e rfl)
        have fz := hq7.frozen 0
        have fc : W7.cell? ⟨w.heap.size, 0, none⟩ = some (.slice A5 n5 c5) := (HCC.out W7 hS7).1
        have hk8 : Keep (fun i => i = w.heap.size) W7 (W7.setCell ⟨w.heap.size, 0, none⟩ (.slice A7 n7 c7)) := Keep.setCell _ _ _ rfl
        have hbw8 : Below w.heap.size w (W7.setCell ⟨w.heap.size, 0, none⟩ (.slice A7 n7 c7)) := HBW7.out.setCell (p := ⟨w.heap.size, 0, none⟩) (Nat.le_refl _) _
        have hown : Own w 0 5 (.slice A1 f0.bs.length c1) f0.bs := by have := H.out.byt f0 HF0.out; rw [EV.out] at this; exact this
        have hfin8 : Rd (W7.setCell ⟨w.heap.size, 0, none⟩ (.slice A7 n7 c7)) w.heap.size (.slice A7 n7 c7) ⟨S.cap, -1, false, 0⟩ (R1 ++ [fr]) := ⟨hq7.set_ 0 _, HO7.out.kept hk8 (fun i hi e => (HF7.out i hi).2 e), fun f hf => by
          rcases List.mem_append.1 hf with hf | hf
          · exact ((HR3.out.byt f hf).kept hS7 (fun i hi e => (HR3.out.bytq hf i hi).2 e)).kept hk8 (fun i hi e => (HR3.out.bytq hf i hi).1 e)
          · obtain rfl : f = fr := by simpa using hf
            rw [HFR.out]
            exact (hown.below hbw8 (Nat.le_refl _)).front nn HNN.out⟩
        have HFIN := Lib.hid (And.intro hfin8 hbw8)
        refine tail_last (by kernel_rfl) rfl (by kernel_rfl) (fun K hK => ?_)
        go_simp
        refine hK.out _ _ ?_
        clear hK K
        try simp only [Act.put, List.setIfInBounds_toArray, List.set_cons_zero, List.set_cons_succ]
        clear fz fc hq7 hk8 hbw8 hown hfin8 hS7 hS6 HCC
        go_wp2
        go_round
        case rel =>
          refine ⟨j + 1, kk2, _, R1 ++ [fr], HLT.out, HKK2.out, by go_num, int_eq' (by rw [HZK.out]), ?_, ?_, HFIN.out.1, HFIN.out.2, fun i hi => (HF7.out i hi).1, fun f hf => ?_⟩
          · rw [HTS.out, restP_snoc, HRS.out]
            exact HKE.out.2
          · rw [HTS.out, crashP_snoc, pl_app, HPL.out, HRS.out, HFR.out, HSN.out]
            show _ ++ [(f0.nm, f0.bs.take nn, nn)] = _ ++ [(f0.nm, f0.bs.take (keptN f0.la f0.bs.length (kp.drop kk)).1, (keptN f0.la f0.bs.length (kp.drop kk)).1)]
            rw [HKE.out.1]
          · rcases List.mem_append.1 hf with hf | hf
            · exact HS1.out f hf
            · obtain rfl : f = fr := by simpa using hf
              exact ⟨f0, HF0.out, fun i hi => by rw [EV.out]; rw [HFR.out] at hi; exact (own_block_front A1 nn f0.bs.length c1 c1).trans hi⟩
        case measure => simp [intOf]; omega
    · obtain rfl : j = R.length := by omega
      clear hlt hj
      go_wp2
      go_ret
      exact ⟨_, _, R1, rfl, H1.out, by rw [HPL.out, List.take_of_length_le (by rw [pl_len]; exact Nat.le_refl _)], HB1.out, Nat.le_refl _, HF1.out, HS1.out⟩
end
end Go.Proofs.Ytdbkhigocjmfoaa

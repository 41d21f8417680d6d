/-
  The document's Double and Clear.
-/
import Derived.Test.YtellbmghahgjfaaNfD
namespace Go.Proofs.Ytellbmghahgjfaa
open Go.RowKit Go.Maps
open NetM
set_option linter.unusedVariables false
set_option linter.unusedSimpArgs false
set_option maxRecDepth 20000
section
variable {w w' : World} {x B : Nat} {s : Sv} {E lost : Int} {R : List (Fl Pl)}
set_option maxHeartbeats 4000000 in
theorem refDouble_bad (h : Rn w x s E lost R B) (z : Int) (c : Int) (hc : (z < 0 ∧ c = 2) ∨ ((R.length : Int) ≤ z ∧ c = 6)) : Calls Try.prog 33 #[.pointer (some ⟨x, 0, none⟩), .int .i64 z] w fun e w' => e = .returned (.int .i64 c) ∧ Below w.heap.size w w' := by
  have HAT := Lib.hid (refAt_bad h z c hc)
  have hcn : (c != 0) = true := by rcases hc with ⟨_, rfl⟩ | ⟨_, rfl⟩ <;> rfl
  clear hc h
  go_enter Try.func33, Try.ntmps33
  go_wp2_with (go_at_call 35; refine HAT.out.mono ?_; rintro e X ⟨rfl, hbX⟩)
  go_ret
  exact ⟨rfl, hbX.alloc hbX.size _⟩
/-- What a doubling answers and leaves. -/
def RDouble (w : World) (x : Nat) (E lost : Int) (R : List (Fl Pl)) (B : Nat) (f : Fl Pl) (e : Ending) (w' : World) : Prop :=
  (64 ≤ (lineOf R f.p).length ∧ e = .returned (.int .i64 5) ∧ RnEnd w x E lost R B w') ∨
  ((lineOf R f.p).length < 64 ∧ e = .returned (.int .i64 0) ∧ RnEnd w x E lost (lay R f) B w')
set_option maxHeartbeats 4000000 in
theorem refDouble_any (h : Rn w x s E lost R B) (hB : B ≤ w.heap.size) (hR : R.length ≤ 100000) (i : Nat) (hi : i < R.length) : Calls Try.prog 33 #[.pointer (some ⟨x, 0, none⟩), .int .i64 (i : Int)] w (RDouble w x E lost R B R[i]) := by
  have HAT := Lib.hid (refAt_any h i hi (by omega))
  have hby := h.by_ _ (List.getElem_mem hi)
  have hin := h.inb _ (List.getElem_mem hi)
  obtain ⟨⟨q, ⟨t0, t1, t2⟩, l⟩, hf⟩ : ∃ f, R[i] = f := ⟨_, rfl⟩
  rw [hf] at HAT hby hin
  rw [hf]
  simp only [sv] at HAT hby hin
  have HLAY := Lib.hid (show ∀ Z, Below w.heap.size w Z → Calls Try.prog 48 #[.pointer (some ⟨x, 0, none⟩), .agg #[.int .i64 q.1, .int .i64 q.2, .slice t0 t1 t2]] Z fun e w' => e = .returned (.tuple #[]) ∧ RnEnd Z x E lost (lay R ⟨q, ((t0, t1, t2), l)⟩) B w' from fun Z hZ => refLay_any (h.below hZ) (Nat.le_trans hB hZ.size) hR q t0 t1 t2 l (hby.below hZ) (fun j hj => by
      obtain ⟨hb, cs, mm, hh⟩ := hin j hj
      exact ⟨by omega, cs, mm, (hZ.block j (Array.getElem?_eq_some_iff.1 hh).1).trans hh⟩))
  have HLN := Lib.hid (show ∀ Z, Below w.heap.size w Z → Calls Try.prog 36 #[.pointer (some ⟨x, 0, none⟩), .int .i64 q.1, .int .i64 q.2] Z fun e w' => e = .returned (.int .i64 ((lineOf R q).length : Int)) ∧ w' = Z from fun Z hZ => refLine_any (h.below hZ) (by omega) q)
  have HH := Lib.hid h
  obtain ⟨m, hm⟩ : ∃ m, (lineOf R q).length = m := ⟨_, rfl⟩
  have HMM := Lib.hid hm
  rw [hm] at HLN
  clear hf hby hin hi hm h hB hR
  go_enter Try.func33, Try.ntmps33
  go_upto_region 2 with (go_at_call 35; refine HAT.out.mono ?_; rintro e X ⟨rfl, hbX⟩)
  have hbZ := hbX.alloc hbX.size (.cells #[.int .i64 q.1, .int .i64 q.2, .slice t0 t1 t2] 44)
  have hxb : Blk (X.alloc (.cells #[.int .i64 q.1, .int .i64 q.2, .slice t0 t1 t2] 44)) X.heap.size 44 #[.int .i64 q.1, .int .i64 q.2, .slice t0 t1 t2] := Blk.new X _ _
  generalize X.alloc (.cells #[.int .i64 q.1, .int .i64 q.2, .slice t0 t1 t2] 44) = Z at hbZ hxb ⊢
  have a0 : Z.cell? ⟨X.heap.size, 0, none⟩ = some (.int .i64 q.1) := by rw [hxb.cell]; rfl
  have a1 : Z.cell? ⟨X.heap.size, 1, none⟩ = some (.int .i64 q.2) := by rw [hxb.cell]; rfl
  have a2 : Z.cell? ⟨X.heap.size, 2, none⟩ = some (.slice t0 t1 t2) := by rw [hxb.cell]; rfl
  have HLZ := Lib.hid (HLN.out Z hbZ)
  have HYZ := Lib.hid (HLAY.out Z hbZ)
  clear hxb HLN HLAY hbX HAT
  by_cases hf : 64 ≤ m
  · have hfI : (64 : Int) ≤ (m : Int) := by omega
    go_wp2_with (go_at_call 36; refine HLZ.out.mono ?_; rintro e w2 ⟨rfl, hwd⟩; obtain rfl := hwd.symm)
    go_ret
    exact .inl ⟨by rw [HMM.out]; exact hf, rfl, .same HH.out hbZ⟩
  · have hfI : ¬ (64 : Int) ≤ (m : Int) := by omega
    go_wp2_with (first | (go_at_call 36; refine HLZ.out.mono ?_; rintro e w2 ⟨rfl, hwd⟩; obtain rfl := hwd.symm) | (go_at_call 48; refine HYZ.out.mono ?_; rintro e Z2 ⟨rfl, hr2⟩))
    go_ret
    exact .inr ⟨by rw [HMM.out]; omega, rfl, RnEnd.pre hbZ hr2⟩
theorem clear_succ {α : Type} (R : List (Fl α)) (en : Int) (k : Nat) (hk : k < R.length) : clear (R.take (k + 1)) en = clear (R.take k) en ++ (if R[k].p.2 = en then [] else [R[k]]) := by
  unfold clear
  rw [List.take_succ_eq_append_getElem hk, List.filter_append]
  by_cases h : R[k].p.2 = en <;> simp [h]
theorem clear_len {α : Type} (R : List (Fl α)) (en : Int) : (clear R en).length ≤ R.length := List.length_filter_le _ _
set_option maxHeartbeats 4000000 in
theorem refClear_any (h : Rn w x s E lost R B) (hB : B ≤ w.heap.size) (hR : R.length ≤ 100000) (en : Int) : Calls Try.prog 34 #[.pointer (some ⟨x, 0, none⟩), .int .i64 en] w fun e w' => e = .returned (.int .i64 ((R.length : Int) - ((clear R en).length : Int))) ∧ RnEnd w x E lost (clear R en) B w' := by
  obtain ⟨ifl, hif1, hif2, hif3, hif4⟩ := flI
  obtain ⟨A, c, rfl⟩ := h.shape
  have HH := Lib.hid h
  have hx := Lib.hid h.blk.lt
  have HX := Lib.hid (show ∀ Z, Below w.heap.size w Z → Blk Z x 33 #[.slice A R.length c, .int .i64 E, .int .i64 lost] from fun Z hZ => (h.below hZ).blk)
  have HFIN := Lib.hid (show ∀ Z A' n' c', Below w.heap.size w Z → OwnK kFl Z w.heap.size (.slice A' n' c') ((clear R en).map shp) → RnEnd w x E lost (clear R en) B (Z.setCell ⟨x, 0, none⟩ (.slice A' n' c')) from fun Z A' n' c' hZ ho => h.store (s' := (A', n', c')) hZ (Nat.le_refl _) ho hB fun f hf => .inl (List.mem_filter.1 hf).1)
  clear h hB
  go_enter Try.func34, Try.ntmps34
  go_wp2
  go_loopw [5, 6] (fun v z wx => ∃ k : Nat, k ≤ R.length ∧ z = .int .i64 (k : Int) ∧ OwnK kFl wx w.heap.size v ((clear (R.take k) en).map shp) ∧ Below w.heap.size w wx) (fun _ z _ => R.length - (intOf z).toNat)
  case atStart => exact ⟨0, Nat.zero_le _, rfl, OwnK.nil, Below.refl _ _⟩
  case round =>
    obtain ⟨k, hk, rfl, ho, hb⟩ := hrel
    have hkM : (k : Int) ≤ 100000 := by omega
    have hxb := HX.out wr hb
    have q0 : wr.cell? ⟨x, 0, none⟩ = some (.slice A R.length c) := by rw [hxb.cell]; rfl
    by_cases hlt : k < R.length
    · clear hxb
      have hkI : (k : Int) < (R.length : Int) := by omega
      obtain ⟨⟨bs, os, rfl⟩, hcap⟩ := HH.out.row1 (by omega)
      obtain ⟨c0, c1, c2⟩ := HH.out.cells _ hb k hlt
      have hsu := clear_succ R en k hlt
      obtain ⟨⟨u, ⟨t0, t1, t2⟩, l⟩, hf⟩ : ∃ f, R[k] = f := ⟨_, rfl⟩
      rw [hf] at c0 c1 c2 hsu
      simp only [sv] at c0 c1 c2
      have HSU := Lib.hid hsu
      clear hf hsu
      have hln : ((clear (R.take k) en).map shp).length ≤ 100000 := by
        rw [List.length_map]
        have := clear_len (R.take k) en
        rw [List.length_take] at this
        omega
      obtain ⟨LL, hLL⟩ : ∃ L, (clear (R.take k) en).map shp = L := ⟨_, rfl⟩
      rw [hLL] at ho hln
      have HLL := Lib.hid hLL
      clear hLL
      by_cases e2 : u.2 = en
      · have j2 : (u.2 != en) = false := by simp [e2]
        have HE2 := Lib.hid e2
        have HO := Lib.hid ho
        clear e2 ho hln
        go_wp2
        go_roundw
        case rel => exact ⟨k + 1, by omega, by go_num, by rw [HSU.out, if_pos HE2.out, List.append_nil, HLL.out]; exact HO.out, hb⟩
        case measure => simp [intOf]; omega
      · have j2 : (u.2 != en) = true := by simp [e2]
        have HE2 := Lib.hid e2
        have HO := Lib.hid ho
        have hbw := hb.size
        have hb2 : Below wr.heap.size wr (wr.alloc (.cells #[.int .i64 u.1, .int .i64 u.2, .slice t0 t1 t2] 44)) := (Below.refl _ _).alloc (Nat.le_refl _) _
        have HO2 := Lib.hid (ho.below hb2)
        have HONE := Lib.hid (SlK.one (k := kFl) wr ⟨u, (t0, t1, t2)⟩ #[.int .i64 u.1, .int .i64 u.2, .slice t0 t1 t2] rfl)
        have HB2 := Lib.hid (hb.trans (hb2.mono hb.size))
        have hsz : w.heap.size ≤ (wr.alloc (.cells #[.int .i64 u.1, .int .i64 u.2, .slice t0 t1 t2] 44)).heap.size := HB2.out.size
        have h63 : LL.length + [(⟨u, (t0, t1, t2)⟩ : Fl Sv)].length ≤ maxLen := by simp [maxLen]; omega
        have hby : (LL.length + [(⟨u, (t0, t1, t2)⟩ : Fl Sv)].length) * kFl.by_ ≤ 140737488355328 := by simp [kFl]; omega
        clear e2 ho hb2
        go_wp2_with (at_builtin; refine wpList_append_k (k := kFl) rfl _ _ 31 rfl w.heap.size ifl (by kernel_rfl) hif1 hif2 hif3 hif4 _ LL rfl HO2.out _ [⟨u, (t0, t1, t2)⟩] rfl HONE.out h63 hby hsz ?_; intro v5 Z4 ho5 hg5 _)
        go_roundw
        case rel =>
          exact ⟨k + 1, by omega, by go_num, by rw [HSU.out, if_neg HE2.out, List.map_append, HLL.out]; exact ho5, Keep.below (S := fun i => w.heap.size ≤ i) HB2.out (Keep.of_grown hg5 (fun i e => (HO2.out.lt i e).1)) hsz (fun _ h => h)⟩
        case measure => simp [intOf]; omega
    · obtain rfl : k = R.length := by omega
      rw [List.take_length] at ho
      obtain ⟨A', c', e'⟩ := ho.shape
      have hfx := hxb.frozen 0
      have hxl : x < wr.heap.size := hxb.lt
      have hln : (clear R en).length ≤ 100000 := by have := clear_len R en; omega
      rw [List.length_map] at e'
      subst e'
      obtain ⟨m, hm⟩ : ∃ m, (clear R en).length = m := ⟨_, rfl⟩
      rw [hm] at hln
      have HM := Lib.hid hm
      have HO := Lib.hid (And.intro (hm ▸ ho) hb)
      rw [hm]
      clear ho hb hm
      have hwr : IntKind.i64.wrap ((R.length : Int) - (m : Int)) = (R.length : Int) - (m : Int) := by rw [IntKind.wrap_i64] <;> omega
      clear hxb
      go_wp2
      go_ret
      exact ⟨by rw [HM.out]; rfl, HFIN.out _ _ _ _ HO.out.2 HO.out.1⟩
end
end Go.Proofs.Ytellbmghahgjfaa

/-
  A copy that grows, file by file, in whatever order: the plain side.
-/
import Derived.Test.YtdbkhigocjmfoaaDskRens
import Derived.Test.YtdbkhigocjmfoaaDskLook
import Derived.Test.YtdbkhigocjmfoaaDskApp1
namespace Go.Proofs.Ytdbkhigocjmfoaa
open Go.RowKit Go.Maps
open DskM
set_option linter.unusedVariables false
set_option linter.unusedSimpArgs false
set_option maxRecDepth 20000

theorem ins_low {f : Fo} : ∀ {L : List Fo}, (∀ y ∈ L, Lt f.nm y.nm) → ins f L = f :: L
  | [], _ => rfl
  | y :: L, h => by
    unfold ins
    exact if_pos (h y (List.mem_cons_self ..))
theorem ins_filter : ∀ {L : List Fo} {f : Fo} {q q' : Fo → Bool}, Rise L → f ∈ L → q f = false → q' f = true → (∀ x ∈ L, x.nm ≠ f.nm → q' x = q x) → ins f (L.filter q) = L.filter q'
  | [], _, _, _, _, hf, _, _, _ => by cases hf
  | x :: L, f, q, q', hr, hf, h0, h1, hh => by
    obtain ⟨hx, hL⟩ := List.pairwise_cons.1 hr
    rcases List.mem_cons.1 hf with e | hf
    · subst e
      rw [List.filter_cons_of_neg (by simp [h0]), List.filter_cons_of_pos h1]
      rw [ins_low (fun y hy => hx y (List.mem_filter.1 hy).1)]
      congr 1
      exact List.filter_congr fun y hy => (hh y (List.mem_cons_of_mem _ hy) (hx y hy).ne.symm).symm
    · have ih := ins_filter hL hf h0 h1 (fun y hy => hh y (List.mem_cons_of_mem _ hy))
      have hlt := hx f hf
      have e := hh x (List.mem_cons_self ..) hlt.ne
      have hnb : bytesBefore f.nm x.nm = false := by
        have := hlt.asymm
        cases hb : bytesBefore f.nm x.nm
        · rfl
        · exact absurd hb this
      by_cases hq : q x = true
      · rw [List.filter_cons_of_pos hq, List.filter_cons_of_pos (by rw [e]; exact hq)]
        unfold ins
        rw [if_neg (by rw [hnb]; simp), ih]
      · rw [List.filter_cons_of_neg hq, List.filter_cons_of_neg (by rw [e]; exact hq)]
        exact ih
/-- The files that have come. -/
def cameL (L : List Fo) (left : Lit → Bool) : List Fo := L.filter fun f => !left (.string f.nm)
theorem cameL_none {L : List Fo} {left : Lit → Bool} (h : ∀ f ∈ L, left (.string f.nm) = true) : cameL L left = [] := by
  unfold cameL
  exact List.filter_eq_nil_iff.2 (fun f hf => by simp [h f hf])
theorem cameL_all {L : List Fo} {left : Lit → Bool} (h : ∀ kl, left kl = false) : cameL L left = L := by
  unfold cameL
  exact List.filter_eq_self.2 (fun f hf => by simp [h])
theorem cameL_step {L : List Fo} {left : Lit → Bool} {f : Fo} (hr : Rise L) (hf : f ∈ L) (hl : left (.string f.nm) = true) : ins f (cameL L left) = cameL L (fun z => left z && !z.sameKey (.string f.nm)) := by
  refine ins_filter hr hf (by simp [hl]) ?_ (fun x hx hne => ?_)
  · have : (Lit.string f.nm).sameKey (.string f.nm) = true := by show (f.nm == f.nm) = true; simp
    simp [this]
  · have : (Lit.string x.nm).sameKey (.string f.nm) = false := by
      show (x.nm == f.nm) = false
      exact beq_eq_false_iff_ne.2 hne
    simp [this]
theorem cameL_lacks {L : List Fo} {left : Lit → Bool} {f : Fo} (hl : left (.string f.nm) = true) : ∀ y ∈ cameL L left, y.nm ≠ f.nm := fun y hy e => by
  have h := (List.mem_filter.1 hy).2
  rw [e, hl] at h
  cases h
theorem total_came (L : List Fo) (left : Lit → Bool) : total (cameL L left) = came L left := rfl
theorem plain_total {L L' : List Fo} (e : plain L = plain L') : total L = total L' := by rw [← total_plain, ← total_plain, e]
theorem plain_length {L L' : List Fo} (e : plain L = plain L') : L.length = L'.length := by rw [← plain_len, ← plain_len, e]
theorem plain_names {L L' : List Fo} (e : plain L = plain L') {n : Nm} (h : ∀ y ∈ L', y.nm ≠ n) : ∀ y ∈ L, y.nm ≠ n := fun y hy e2 => by
  have h1 : y.p ∈ plain L := List.mem_map.2 ⟨y, hy, rfl⟩
  rw [e] at h1
  obtain ⟨z, hz, hzy⟩ := List.mem_map.1 h1
  refine h z hz ?_
  have : z.p.1 = y.p.1 := by rw [hzy]
  exact this.trans e2
end Go.Proofs.Ytdbkhigocjmfoaa

/-
  The walk of Copy.
-/
namespace Go.Proofs.Ytdbkhigocjmfoaa
open Go.RowKit Go.Maps
open DskM
set_option linter.unusedVariables false
set_option linter.unusedSimpArgs false
set_option maxRecDepth 20000

theorem ranges_keep {H : Type} {T : Nat → Prop} {w w' : World} {P : Program} {k : TypeId} {R : Value → Option (DataW H × List MemPlace)} {b r n : Nat} {D : DataW H} {left : Lit → Bool} {cnt : Nat} (h : w.ranges P k R b r n D left cnt) (hk : Keep T w w') (hb : ¬ T b) (hr : ¬ T r) : w'.ranges P k R b r n D left cnt := by
  have h1 := h.owns.lt
  have h2 := h.lt
  obtain ⟨es, clock, since, seen, c0, hb', F, hs, hD, hr', rest⟩ := h
  exact ⟨es, clock, since, seen, c0, (hk.block b h1 hb).trans hb', F, hs, hD, (hk.block r h2 hr).trans hr', rest⟩
section
variable {w w' : World} {p m : Nat} {S S' : Ds} {L : List Fo}
set_option maxHeartbeats 8000000 in
theorem copy_any (h : Dk w p m S L) :
    Calls Try.prog 12 #[.pointer (some ⟨p, 0, none⟩)] w fun e w' => ∃ p' m' L', e = .returned (.pointer (some ⟨p', 0, none⟩)) ∧ plain L' = plain L ∧ Dk w' p' m' S L' ∧ (∀ i, Foot p' m' L' i → w.heap.size ≤ i) ∧ Below w.heap.size w w' := by
  have hfo : Try.prog.follows .mixedOrders = true := by kernel_rfl
  have hn := none_any h
  have c0 := h.c0
  have c1 := h.c1
  have c2 := h.c2
  have c3 := h.c3
  have c4 := h.c4
  have hmm := @run_makeMap Try.prog
  have hb0 : Below w.heap.size w ((w.alloc (.cells #[.int .i64 (S.cap : Int), .map (some (w.heap.size + 1)), .int .i64 S.fuse, .bool S.dead, .int .i64 (S.wr : Int)] 63)).alloc (.map #[] 0)) := ((Below.refl _ _).alloc (Nat.le_refl _) _).alloc (by simp) _
  have c1V : World.cell? ((w.alloc (.cells #[.int .i64 (S.cap : Int), .map (some (w.heap.size + 1)), .int .i64 S.fuse, .bool S.dead, .int .i64 (S.wr : Int)] 63)).alloc (.map #[] 0)) ⟨p, 1, none⟩ = some (.map (some m)) := (h.below hb0).c1
  have hownV : World.ownsMap ((w.alloc (.cells #[.int .i64 (S.cap : Int), .map (some (w.heap.size + 1)), .int .i64 S.fuse, .bool S.dead, .int .i64 (S.wr : Int)] 63)).alloc (.map #[] 0)) Try.prog 9 ptrR m L.length (DE L) := (h.below hb0).map
  have hBV : Blk ((w.alloc (.cells #[.int .i64 (S.cap : Int), .map (some (w.heap.size + 1)), .int .i64 S.fuse, .bool S.dead, .int .i64 (S.wr : Int)] 63)).alloc (.map #[] 0)) w.heap.size 63 (dkc S (w.heap.size + 1)) := (Blk.new w 63 (dkc S (w.heap.size + 1))).alloc (.map #[] 0)
  have hMV := World.ownsMap_made (w.alloc (.cells #[.int .i64 (S.cap : Int), .map (some (w.heap.size + 1)), .int .i64 S.fuse, .bool S.dead, .int .i64 (S.wr : Int)] 63)) Try.prog 9 ptrR
  rw [show (w.alloc (.cells #[.int .i64 (S.cap : Int), .map (some (w.heap.size + 1)), .int .i64 S.fuse, .bool S.dead, .int .i64 (S.wr : Int)] 63)).heap.size = w.heap.size + 1 by simp] at hMV
  have hnV : Dk ((w.alloc (.cells #[.int .i64 (S.cap : Int), .map (some (w.heap.size + 1)), .int .i64 S.fuse, .bool S.dead, .int .i64 (S.wr : Int)] 63)).alloc (.map #[] 0)) w.heap.size (w.heap.size + 1) S [] := ⟨hBV, hMV, List.Pairwise.nil, (fun f hf => by cases hf), (fun f hf => by cases hf), h.cap1, h.cap2, Nat.zero_le _, Nat.zero_le _, h.fuse1, h.fuse2⟩
  have hzV : (((w.alloc (.cells #[.int .i64 (S.cap : Int), .map (some (w.heap.size + 1)), .int .i64 S.fuse, .bool S.dead, .int .i64 (S.wr : Int)] 63)).alloc (.map #[] 0))).heap.size = w.heap.size + 1 + 1 := by simp
  have HB0 := Lib.hid hb0
  have HNV := Lib.hid hnV
  have HZV := Lib.hid hzV
  have HOV := Lib.hid hownV
  have H := Lib.hid h
  have hpl := h.blk.lt
  have hml := h.lt m (.inr (.inl rfl))
  clear h hb0 hnV hzV hBV hMV hownV
  go_enter Try.func12, Try.ntmps12
  go_wp2_with fail
  refine hn.mono ?_
  rintro e w1 ⟨rfl, rfl⟩
  clear hn
  go_wp2_with (at_range; refine wpList_range_own _ rfl _ 61 rfl 9 75 strKey Try.underlying61 ptrR m L.length (DE L) rfl HOV.out ?_; intro w0 hrg0 hg0 hs0)
  go_frame
  rw [HZV.out]
  rw [HZV.out] at hrg0 hs0
  have hbv := HB0.out
  have hbw : Below ((((w1.alloc (.cells #[.int .i64 (S.cap : Int), .map (some (w1.heap.size + 1)), .int .i64 S.fuse, .bool S.dead, .int .i64 (S.wr : Int)] 63)).alloc (.map #[] 0))).heap.size) ((w1.alloc (.cells #[.int .i64 (S.cap : Int), .map (some (w1.heap.size + 1)), .int .i64 S.fuse, .bool S.dead, .int .i64 (S.wr : Int)] 63)).alloc (.map #[] 0)) w0 := (Below.refl _ _).grown hg0 (Nat.le_refl _) (fun k e => by cases e)
  have hn0 := HNV.out.below hbw
  have hb0 : Below w1.heap.size w1 w0 := hbv.trans (hbw.mono hbv.size)
  have hst : cameL L (Maps.has (DE L)) = [] := cameL_none (fun f hf => by rw [has_DE, find_of_mem H.out.rise hf]; rfl)
  have hf0 : ∀ i, Foot w1.heap.size (w1.heap.size + 1) [] i → w1.heap.size ≤ i ∧ i ≠ w1.heap.size + 1 + 1 := by
    rintro i (rfl | rfl | ⟨f, hf, _⟩)
    · omega
    · omega
    · cases hf
  go_loopw [4, 5] (fun _ _ wr => ∃ left cnt L', wr.ranges Try.prog 9 ptrR m (w1.heap.size + 1 + 1) L.length (DE L) left cnt ∧ plain L' = plain (cameL L left) ∧ Dk wr w1.heap.size (w1.heap.size + 1) S L' ∧ (∀ i, Foot w1.heap.size (w1.heap.size + 1) L' i → w1.heap.size ≤ i ∧ i ≠ w1.heap.size + 1 + 1) ∧ Below w1.heap.size w1 wr ∧ w1.heap.size + 3 ≤ wr.heap.size) (fun _ _ wr => wr.rangeLeft m (w1.heap.size + 1 + 1))
  case atStart => exact ⟨_, _, [], hrg0, by rw [hst], hn0, hf0, hb0, by omega⟩
  case round =>
    clear hrg0 hg0 hs0 hb0 hst hn0 hf0 hbw hbv c0 c1 c2 c3 c4 c1V
    obtain ⟨left, cnt, L', hrg, hpn, hd, hft, hb, hsz⟩ := hrel
    have HRG := Lib.hid hrg
    have HPN := Lib.hid hpn
    have HDD := Lib.hid hd
    have HFT := Lib.hid hft
    have HBB := Lib.hid hb
    have HSZ := Lib.hid hsz
    clear hpn hd hft hb hsz
    go_wp2_with (at_next; refine wpList_next_ranges _ rfl _ rfl 9 strKey ptrR Value.string mkP inv_str inv_ptr m (w1.heap.size + 1 + 1) L.length (DE L) left cnt rfl hrg ?_ ?_)
    · intro hc0 hl0
      have he := cameL_all (L := L) hl0
      have hpe : plain L' = plain L := by rw [HPN.out, he]
      have HPE := Lib.hid hpe
      clear hc0 hl0 hrg he hpe
      go_wp2
      go_ret
      exact ⟨_, _, L', rfl, HPE.out, HDD.out, fun i hi => (HFT.out i hi).1, HBB.out⟩
    · intro x c kl yd yp w2 cnt1 hkx hlk hv hat hrg1 hlt hg1 hs1 hen
      obtain ⟨f, hf, hnm, rfl, rfl⟩ := entry_is hkx hv hat
      have hb2 : Below w1.heap.size w1 w2 := HBB.out.grown hg1 HBB.out.size (fun k e => by injection e with e; omega)
      have hd2 : Dk w2 w1.heap.size (w1.heap.size + 1) S L' := HDD.out.kept (Keep.of_grown (S := fun i => i = w1.heap.size + 1 + 1) hg1 (fun k e => by injection e with e; exact e.symm)) (fun i hi e => (HFT.out i hi).2 e)
      have hfa := (H.out.below hb2).file f hf
      obtain ⟨A, n, cc, hvv⟩ := hfa.row.shape
      have hsl := hfa.row.sl
      rw [hvv] at hsl
      obtain rfl : n = f.bs.length := hsl.len
      have FACTS := Lib.hid (show ∀ (X : World) (L2 : List Fo), Dk X w1.heap.size (w1.heap.size + 1) S L2 → Below w1.heap.size w1 X → X.cell? ⟨w1.heap.size, 1, none⟩ = some (.map (some (w1.heap.size + 1))) ∧ X.cell? ⟨f.g, 0, none⟩ = some (.slice A f.bs.length cc) ∧ X.cell? ⟨f.g, 1, none⟩ = some (.int .i64 (f.la : Int)) from
        fun X L2 hd hb => ⟨hd.c1, by have e := ((H.out.below hb).file f hf).c0; rw [hvv] at e; exact e, ((H.out.below hb).file f hf).c1⟩)
      have hstp := cameL_step H.out.rise hf hlk
      have hlack := cameL_lacks (L := L) hlk
      have hlen : f.bs.length ≤ 1000000000 := by have := total_ge hf; have := H.out.room; have := H.out.cap2; omega
      have hfew : L'.length < maxLen := by have := HDD.out.few; unfold maxLen; omega
      simp only [mkP] at hen
      have HST := Lib.hid hstp
      have HLK := Lib.hid hlack
      have HLK2 := Lib.hid hlk
      have HLT := Lib.hid hlt
      have HRG1 := Lib.hid hrg1
      have HKX := Lib.hid hkx
      have HFM := Lib.hid hf
      have HNM := Lib.hid hnm
      have HFA := Lib.hid hfa
      have HFEW := Lib.hid hfew
      have hsz2 := HSZ.out
      rw [← hs1] at hsz2
      clear hkx hlk hv hat hg1 hs1 hfa hvv hstp hrg hlt hrg1 hlack hfew hf hnm
      go_wp2_with fail
      refine wp_region_held_drew (S := fun X => X.cell? ⟨w1.heap.size, 1, none⟩ = some (.map (some (w1.heap.size + 1))) ∧ X.cell? ⟨f.g, 0, none⟩ = some (.slice A f.bs.length cc) ∧ X.cell? ⟨f.g, 1, none⟩ = some (.int .i64 (f.la : Int))) hfo (FACTS.out _ L' (hd2.below (Below.refl _ _).drew) (hb2.trans ((Below.refl _ _).drew.mono hb2.size))) (fun hS0 => ?_)
      have hb2' : Below w1.heap.size w1 w2.drew := hb2.trans ((Below.refl _ _).drew.mono hb2.size)
      have hd2' := hd2.below (Below.refl w2.heap.size w2).drew
      have hcl := clone_any (.slice A f.bs.length cc) f.bs w2.drew (hsl.keep fun p u hu => hu) hlen
      have hkd : Keep (fun i => i = w1.heap.size + 1) w2 w2.drew := Keep.of_below (Below.refl w2.heap.size w2).drew
      have hsz3 : w1.heap.size + 3 ≤ w2.drew.heap.size := hsz2
      clear hb2 hd2 hsl hsz2
      have HCL := Lib.hid hcl
      have HB2 := Lib.hid hb2'
      have HD2 := Lib.hid hd2'
      have HKD := Lib.hid hkd
      have HSZ2 := Lib.hid hsz3
      clear hcl hb2' hd2' hkd hsz3
      generalize w2.drew = W2 at hS0 HCL HB2 HD2 HKD HSZ2 ⊢
      refine' wpAnyH_take (i := 0) (oi := ⟨some 23, _, _, _, _, _⟩) (v := _) rfl (by kernel_rfl) (by kernel_rfl) (by kernel_rfl) (fun _ _ _ h => h) (Or.inl ⟨by rfl, ?y0⟩) hS0 ?r0
      case y0 => (intro w' hSw; obtain ⟨s0, s1, s2⟩ := hSw; go_simp; try rfl)
      try simp only [Act.put, List.setIfInBounds_toArray, List.set_cons_zero, List.set_cons_succ]
      refine' wpAnyH_take (i := 1) (oi := ⟨some 24, _, _, _, _, _⟩) (v := _) rfl (by kernel_rfl) (by kernel_rfl) (by kernel_rfl) (fun _ _ _ h => h) (Or.inl ⟨by rfl, ?y1⟩) hS0 ?r1
      case y1 => (intro w' hSw; obtain ⟨s0, s1, s2⟩ := hSw; go_simp; try rfl)
      try simp only [Act.put, List.setIfInBounds_toArray, List.set_cons_zero, List.set_cons_succ]
      refine' wpAnyH_take (i := 2) (oi := ⟨some 25, _, _, _, _, _⟩) (v := _) rfl (by kernel_rfl) (by kernel_rfl) (by kernel_rfl) (fun _ _ _ h => h) (Or.inl ⟨by rfl, ?y2⟩) hS0 ?r2
      case y2 => (intro w' hSw; obtain ⟨s0, s1, s2⟩ := hSw; go_simp; try rfl)
      try simp only [Act.put, List.setIfInBounds_toArray, List.set_cons_zero, List.set_cons_succ]
      refine' wpAnyH_take (i := 3) (oi := ⟨some 26, _, _, _, _, _⟩) (v := _) rfl (by kernel_rfl) (by kernel_rfl) (by kernel_rfl) (fun _ _ _ h => h) (Or.inl ⟨by rfl, ?y3⟩) hS0 ?r3
      case y3 => (intro w' hSw; obtain ⟨s0, s1, s2⟩ := hSw; go_simp; try rfl)
      try simp only [Act.put, List.setIfInBounds_toArray, List.set_cons_zero, List.set_cons_succ]
      refine' wpAnyH_take (i := 4) (oi := ⟨some 27, _, _, _, _, _⟩) (v := _) rfl (by kernel_rfl) (by kernel_rfl) (by kernel_rfl) (fun _ _ _ h => h) (Or.inl ⟨by rfl, ?y4⟩) hS0 ?r4
      case y4 => (intro w' hSw; obtain ⟨s0, s1, s2⟩ := hSw; go_simp; try rfl)
      try simp only [Act.put, List.setIfInBounds_toArray, List.set_cons_zero, List.set_cons_succ]
      refine' wpAnyH_take (i := 5) (oi := ⟨some 28, _, _, _, _, _⟩) (v := _) rfl (by kernel_rfl) (by kernel_rfl) (by kernel_rfl) (fun _ _ _ h => h) (Or.inl ⟨by rfl, ?y5⟩) hS0 ?r5
      case y5 => (intro w' hSw; obtain ⟨s0, s1, s2⟩ := hSw; go_simp; try rfl)
      try simp only [Act.put, List.setIfInBounds_toArray, List.set_cons_zero, List.set_cons_succ]
      refine' wpAnyH_take (i := 6) (oi := ⟨some 29, _, _, _, _, _⟩) (v := _) rfl (by kernel_rfl) (by kernel_rfl) (by kernel_rfl) (fun _ _ _ h => h) (Or.inl ⟨by rfl, ?y6⟩) hS0 ?r6
      case y6 => (intro w' hSw; obtain ⟨s0, s1, s2⟩ := hSw; go_simp; try rfl)
      try simp only [Act.put, List.setIfInBounds_toArray, List.set_cons_zero, List.set_cons_succ]
      refine' wpAnyH_take (i := 8) (oi := ⟨some 31, _, _, _, _, _⟩) (v := _) rfl (by kernel_rfl) (by kernel_rfl) (by kernel_rfl) (fun _ _ _ h => h) (Or.inl ⟨by rfl, ?y8⟩) hS0 ?r8
      case y8 => (intro w' hSw; obtain ⟨s0, s1, s2⟩ := hSw; go_simp; try rfl)
      try simp only [Act.put, List.setIfInBounds_toArray, List.set_cons_zero, List.set_cons_succ]
      refine' wpAnyH_take (i := 9) (oi := ⟨some 32, _, _, _, _, _⟩) (v := _) rfl (by kernel_rfl) (by kernel_rfl) (by kernel_rfl) (fun _ _ _ h => h) (Or.inl ⟨by rfl, ?y9⟩) hS0 ?r9
      case y9 => (intro w' hSw; obtain ⟨s0, s1, s2⟩ := hSw; go_simp; try rfl)
      try simp only [Act.put, List.setIfInBounds_toArray, List.set_cons_zero, List.set_cons_succ]
      refine' wpAnyH_take (i := 10) (oi := ⟨some 33, _, _, _, _, _⟩) (v := _) rfl (by kernel_rfl) (by kernel_rfl) (by kernel_rfl) (fun _ _ _ h => h) (Or.inl ⟨by rfl, ?y10⟩) hS0 ?r10
      case y10 => (intro w' hSw; obtain ⟨s0, s1, s2⟩ := hSw; go_simp; try rfl)
      try simp only [Act.put, List.setIfInBounds_toArray, List.set_cons_zero, List.set_cons_succ]
      refine' wpAnyH_take (i := 11) (oi := ⟨some 34, _, _, _, _, _⟩) (v := _) rfl (by kernel_rfl) (by kernel_rfl) (by kernel_rfl) (fun _ _ _ h => h) (Or.inl ⟨by rfl, ?y11⟩) hS0 ?r11
      case y11 => (intro w' hSw; obtain ⟨s0, s1, s2⟩ := hSw; go_simp; try rfl)
      try simp only [Act.put, List.setIfInBounds_toArray, List.set_cons_zero, List.set_cons_succ]
      refine held_one (i := 7) (by kernel_rfl) rfl (fun K hK => ?_)
      go_simp
      refine HCL.out.mono ?_
      rintro e w3 ⟨v3, rfl, ho3, hb3⟩
      obtain ⟨A3, n3, c3, rfl⟩ := ho3.shape
      have hb13 := HB2.out.trans (hb3.mono HB2.out.size)
      have hd3 := HD2.out.below hb3
      have hS3 := FACTS.out w3 L' hd3 hb13
      refine hK.out _ _ hS3 (fun _ => ?_)
      clear hK K
      try simp only [Act.put, List.setIfInBounds_toArray, List.set_cons_zero, List.set_cons_succ]
      refine' wpAnyH_take (i := 12) (oi := ⟨some 35, _, _, _, _, _⟩) (v := _) rfl (by kernel_rfl) (by kernel_rfl) (by kernel_rfl) (fun _ _ _ h => h) (Or.inl ⟨by rfl, ?y12⟩) hS3 ?r12
      case y12 => (intro w' hSw; obtain ⟨s0, s1, s2⟩ := hSw; go_simp; try rfl)
      try simp only [Act.put, List.setIfInBounds_toArray, List.set_cons_zero, List.set_cons_succ]
      refine held_one (i := 13) (by kernel_rfl) rfl (fun K hK => ?_)
      go_simp
      have hb4 : Below W2.heap.size W2 (w3.alloc (.cells #[.slice A3 n3 c3, .int .i64 (f.la : Int)] 78)) := hb3.alloc hb3.size _
      have hb14 := HB2.out.trans (hb4.mono HB2.out.size)
      have hd4 := HD2.out.below hb4
      have hS4 := FACTS.out _ L' hd4 hb14
      have hBf := Blk.new w3 78 #[.slice A3 n3 c3, .int .i64 (f.la : Int)]
      have hof : Own (w3.alloc (.cells #[.slice A3 n3 c3, .int .i64 (f.la : Int)] 78)) W2.heap.size 5 (.slice A3 n3 c3) f.bs := ho3.alloc _
      have hz3 := hb3.size
      have hfg : w1.heap.size + 3 ≤ w3.heap.size := by have := HSZ2.out; omega
      refine hK.out _ _ hS4 (fun _ => ?_)
      clear hK K
      try simp only [Act.put, List.setIfInBounds_toArray, List.set_cons_zero, List.set_cons_succ]
      generalize w3.heap.size = g' at hBf hz3 hfg ⊢
      generalize w3.alloc (.cells #[.slice A3 n3 c3, .int .i64 (f.la : Int)] 78) = W4 at hb4 hb14 hd4 hS4 hBf hof ⊢
      obtain ⟨W5, hrun, hown5, hgr5⟩ := hd4.map.store strKey Try.underlying61 HFEW.out (key := .string x) (kl := .string f.nm) (val := .pointer (some ⟨g', 0, none⟩)) HKX.out (ptrR_some g')
      have HH := Lib.hid (And.intro hown5 (And.intro hgr5 (And.intro hb4 (And.intro hb14 (And.intro hd4 (And.intro hBf (And.intro hof hz3)))))))
      clear hown5 hgr5 hb4 hb14 hd4 hBf hof hb3 hb13 hd3 ho3
      refine held_one (i := 14) (by kernel_rfl) rfl (fun K hK => ?_)
      go_simp
      obtain ⟨hown5, hgr5, hb4, hb14, hd4, hBf, hof, hz3⟩ := HH.out
      obtain ⟨f', hf'⟩ : ∃ f' : Fo, f' = { f with g := g', v := .slice A3 n3 c3 } := ⟨_, rfl⟩
      have e1 : f'.nm = f.nm := by rw [hf']
      have e2 : f'.p = f.p := by rw [hf']; rfl
      have e3 : f'.g = g' := by rw [hf']
      have e4 : f'.v = .slice A3 n3 c3 := by rw [hf']
      have e5 : f'.bs = f.bs := by rw [hf']
      have hfn : ∀ y ∈ L', y.nm ≠ f'.nm := by rw [e1]; exact plain_names HPN.out HLK.out
      have hdel : del L' f'.nm = L' := List.filter_eq_self.2 fun z hz => by simp [hfn z hz]
      have hput := put_DE L' f'
      rw [hdel, e1, e3] at hput
      rw [hput] at hown5
      have hk5 : Keep (fun i => i = w1.heap.size + 1) W4 W5 := Keep.of_grown hgr5.grown (fun k e => by injection e with e; exact e.symm)
      have hb5 : Below w1.heap.size w1 W5 := hb14.grown hgr5.grown hb14.size (fun k e => by injection e with e; omega)
      have hw2 := HSZ2.out
      have hown : ∀ i, f'.v.ownBlock = some i → W2.heap.size ≤ i := fun i hi => (hof.lt i (by rw [← e4]; exact hi)).1
      have hF4 : FoAt W4 f' := ⟨by rw [e3, hf']; exact hBf, by rw [e4, e5]; exact hof.mono (Nat.zero_le _), by rw [hf']; exact HFA.out.la, by rw [e1]; exact HFA.out.may⟩
      have hF5 := hF4.kept hk5 (fun e => by rw [e3] at e; omega) (fun i hi e => by have := hown i hi; omega)
      have htt : total L' + f'.bs.length ≤ S.cap := by have h1 := came_step H.out.rise HFM.out HLK2.out; have h2 : came L (fun z => left z && !z.sameKey (.string f.nm)) ≤ total L := sum_filter_le _ _; have h3 := H.out.room; have h4 : total L' = came L left := plain_total HPN.out; rw [e5]; omega
      have hll : L'.length < 64 := by have h1 := congrArg List.length HST.out; rw [len_ins] at h1; have h2 : (cameL L (fun z => left z && !z.sameKey (.string f.nm))).length ≤ L.length := List.length_filter_le _ _; have h3 := H.out.few; have h4 := plain_length HPN.out; omega
      have hdN : Dk W5 w1.heap.size (w1.heap.size + 1) S (ins f' L') := hd4.more (B := W2.heap.size) hfn HD2.out.lt (by rw [e3]; exact hz3) hown (hk5.mono fun i e => .inl e) hown5 hF5 htt hll
      have hS5 := FACTS.out W5 _ hdN hb5
      have hpN : plain (ins f' L') = plain (cameL L (fun z => left z && !z.sameKey (.string f.nm))) := by rw [ins_plain, e2, HPN.out, ← ins_plain, HST.out]
      have hrN := ranges_keep HRG1.out ((HKD.out.trans (Keep.of_below (S := fun i => i = w1.heap.size + 1) hb4) (fun _ h => h) (fun _ _ h => h)).trans hk5 (fun _ h => h) (fun _ _ h => h)) (by omega) (by omega)
      have hfN : ∀ i, Foot w1.heap.size (w1.heap.size + 1) (ins f' L') i → w1.heap.size ≤ i ∧ i ≠ w1.heap.size + 1 + 1 := by
        rintro i (rfl | rfl | ⟨y, hy, hi⟩)
        · omega
        · omega
        · rcases mem_ins.1 hy with rfl | hy
          · rcases hi with rfl | hi
            · omega
            · have := hown i hi; omega
          · exact HFT.out i (.inr (.inr ⟨y, hy, hi⟩))
      have hsN : w1.heap.size + 3 ≤ W5.heap.size := by have h1 := hk5.size; have h2 := hb4.size; omega
      have HN := Lib.hid (And.intro hpN (And.intro hdN (And.intro hrN (And.intro hfN (And.intro hb5 hsN)))))
      clear hpN hdN hrN hfN hb5 hsN hll htt hF5 hF4 hown hw2 hk5 hput hdel hfn e1 e2 e3 e4 e5 hown5 hgr5 hb4 hb14 hd4 hBf hof hz3 hrun
      refine hK.out _ _ hS5 (fun _ => ?_)
      clear hK K
      try simp only [Act.put, List.setIfInBounds_toArray, List.set_cons_zero, List.set_cons_succ]
      refine wpAnyH_done (by kernel_rfl) ?_ _
      go_wp2
      exact ⟨⟨_, _, _, HN.out.2.2.1, HN.out.1, HN.out.2.1, HN.out.2.2.2.1, HN.out.2.2.2.2.1, HN.out.2.2.2.2.2⟩, by rw [HN.out.2.2.1.left_eq, HRG.out.left_eq]; exact HLT.out⟩
end
end Go.Proofs.Ytdbkhigocjmfoaa

/-
  The law's looks.
-/
import Derived.Test.YtdbkhigocjmfoaaDskRefDo
namespace Go.Proofs.Ytdbkhigocjmfoaa
open Go.RowKit Go.Maps Go.Shelf
open DskM
set_option linter.unusedVariables false
set_option linter.unusedSimpArgs false
set_option maxRecDepth 100000
attribute [local go_sem] Oper.semAt_some
section
variable {w w' W : World} {p q : Nat} {v : Value} {S T : Ds} {R : List Fr} {F : List Fp}
/-- What reading tells beside Find. -/
theorem look_cases (hr : RiseP (pl R)) (n : Nm) :
    (refE (pl R) n ≠ 0 ∧ readE (pl R) n = refE (pl R) n ∧ bytesP (pl R) n = [] ∧ lastsP (pl R) n = 0) ∨
    (∃ k, ∃ hk : k < R.length, refI (pl R) n = k ∧ refE (pl R) n = 0 ∧ readE (pl R) n = 0 ∧ bytesP (pl R) n = R[k].bs ∧ lastsP (pl R) n = R[k].la) := by
  rcases find_cases hr n with ⟨hm, e2, e1⟩ | ⟨hm, hn, hi, e2, e1⟩ | ⟨hm, k, hk, hp, hnm, hn, hi, e2, e1⟩
  · exact .inl ⟨by rw [e1]; decide, by rw [e1]; unfold readE; rw [hm]; rfl, by unfold bytesP; rw [hm]; rfl, by unfold lastsP; rw [hm]; rfl⟩
  · exact .inl ⟨by rw [e1]; decide, by rw [e1]; unfold readE; rw [hm, hn]; rfl, by unfold bytesP; rw [hm, hn]; rfl, by unfold lastsP; rw [hm, hn]; rfl⟩
  · exact .inr ⟨k, hk, e2, e1, by unfold readE; rw [hm, hn]; rfl, by unfold bytesP; rw [hm, hn]; rfl, by unfold lastsP; rw [hm, hn]; rfl⟩
/-- A byte of a row of the call's own turned. -/
theorem Own.put {w : World} {base g n c : Nat} {e : TypeId} {l : List UInt8} (h : Own w base e (.slice (some ⟨g, 0, none⟩) n c) l) (k : Nat) (b : UInt8) : Own (w.setCell ⟨g, k, none⟩ (bv b)) base e (.slice (some ⟨g, 0, none⟩) n c) (l.set k b) := by
  obtain rfl : n = l.length := h.sl.len
  have := (World.ownsRow.stored h k (bv b)).1
  unfold Own
  rw [List.length_set, List.map_set]
  exact this
theorem Own.byteAt {w : World} {base n c : Nat} {e : TypeId} {A : Option Addr} {l : List UInt8} (h : Own w base e (.slice A n c) l) (k : Nat) (hk : k < l.length) : ∃ g, A = some ⟨g, 0, none⟩ ∧ base ≤ g ∧ w.cell? ⟨g, k, none⟩ = some (.int .u8 (l[k].toNat : Int)) ∧ w.frozen? ⟨g, k, none⟩ = false := by
  have hn : n = l.length := h.sl.len
  rcases h.2 with ⟨e1, h0⟩ | ⟨g, cap, cur, e1, hg, hh, hnc, hm, hs, ht⟩
  · omega
  · injection e1 with a1 a2 a3
    have h' := h
    subst a1; subst hn
    refine ⟨g, rfl, hg, ?_, World.ownsRow.frozenAt h' k⟩
    rw [World.ownsRow.cellAt h' k (by omega), List.getElem?_map, List.getElem?_eq_getElem hk]
    rfl
theorem wrap_u8 (x : Nat) (hx : x < 256) : ∃ b : UInt8, IntKind.u8.wrap ((x : Int) + 1) = (b.toNat : Int) := by
  refine ⟨UInt8.ofNat ((x + 1) % 256), ?_⟩
  have h1 : (UInt8.ofNat ((x + 1) % 256)).toNat = (x + 1) % 256 := by simp
  rw [h1]
  show ((x : Int) + 1) % 256 = _
  omega
theorem ret_true : Ending.returned (.bool true) = .returned (.bool true) := rfl
set_option maxHeartbeats 8000000 in
theorem looks_any (hM : My 0 W p S F) (h : Rd W q v T R) (hf : Fit T (pl R)) (hF : pl R = F) (hs : Sim S T) (s : ByteArray) (leave : Int) :
    Calls Try.prog 11 #[.pointer (some ⟨p, 0, none⟩), .pointer (some ⟨q, 0, none⟩), .string s, .int .i64 leave] W fun e w' => e = .returned (.bool true) ∧ Below W.heap.size W w' := by
  have hfo : Try.prog.follows .mixedOrders = true := by kernel_rfl
  subst hF
  have hl : R.length ≤ 64 := by have := hf.few; rw [pl_len] at this; exact this
  have hrd := my_read hM s
  have HLS := Lib.hid (fun X (hX : Below W.heap.size W X) => my_lasts (hM.below hX) s)
  have HFI := Lib.hid (fun X (hX : Below W.heap.size W X) => find_ref (h.below hX) hl s)
  obtain ⟨ro, hro⟩ : ∃ ro : Int, ro = (S.cap : Int) - (totalP (pl R) : Int) := ⟨_, rfl⟩
  have HRM := Lib.hid (show ∀ X, Below W.heap.size W X → Calls Try.prog 28 #[.pointer (some ⟨p, 0, none⟩)] X fun e w' => e = .returned (.int .i64 ro) ∧ Below X.heap.size X w' from fun X hX => by rw [hro]; exact my_room (hM.below hX))
  have HRR := Lib.hid (show ∀ X, Below W.heap.size W X → Calls Try.prog 36 #[.pointer (some ⟨q, 0, none⟩)] X fun e w' => e = .returned (.int .i64 ro) ∧ Below X.heap.size X w' from fun X hX => by rw [hro, ← hs.1]; exact room_ref (h.below hX) hl hf.cap hf.room)
  have HDE := Lib.hid (show ∀ X, Below W.heap.size W X → Calls Try.prog 21 #[.pointer (some ⟨p, 0, none⟩)] X fun e w' => e = .returned (.bool S.dead) ∧ Below X.heap.size X w' from fun X hX => (my_dead (hM.below hX)).mono (fun e w' h => ⟨h.1, by rw [h.2]; exact Below.refl _ _⟩))
  have HWR := Lib.hid (show ∀ X, Below W.heap.size W X → Calls Try.prog 22 #[.pointer (some ⟨p, 0, none⟩)] X fun e w' => e = .returned (.int .i64 (S.wr : Int)) ∧ Below X.heap.size X w' from fun X hX => (my_writes (hM.below hX)).mono (fun e w' h => ⟨h.1, by rw [h.2]; exact Below.refl _ _⟩))
  have HC3 := Lib.hid (show ∀ X, Below W.heap.size W X → X.cell? ⟨q, 3, none⟩ = some (.bool S.dead) from fun X hX => by have := (h.below hX).c3; rw [hs.2.1] at this; exact this)
  have HC4 := Lib.hid (show ∀ X, Below W.heap.size W X → X.cell? ⟨q, 4, none⟩ = some (.int .i64 (S.wr : Int)) from fun X hX => by have := (h.below hX).c4; rw [hs.2.2.1] at this; exact this)
  have HON := Lib.hid (show ∀ X, Below W.heap.size W X → ∀ most : Int, Calls Try.prog 37 #[.pointer (some ⟨p, 0, none⟩), .pointer (some ⟨q, 0, none⟩), .int .i64 most] X fun e w' => e = .returned (.bool true) ∧ Below X.heap.size X w' from fun X hX most => by
    obtain ⟨m, L, e, hd, _⟩ := hM.below hX
    have hr := h.below hX
    obtain ⟨A, c, hv, hrow⟩ := hr.rowAt
    have hc := hr.c0
    rw [hv] at hc
    refine once_any (some ⟨p, 0, none⟩) X q (pl R) A c (by rw [pl_len]; exact hl) most ?_ hc hrow
    have hfo := hd.filesOk
    rw [← e]
    have e1 : (plain L).map (·.1) = L.map Fo.nm := by unfold plain; rw [List.map_map]; rfl
    have e2 : (plain L).map (·.2.1.length) = L.map fun f => f.bs.length := by unfold plain; rw [List.map_map]; rfl
    rw [e1, e2]
    exact hfo)
  rcases look_cases hf.rise s.data.toList with ⟨hne, hre, hbs, hla⟩ | ⟨k, hk, hri, hne, hre, hbs, hla⟩
  · obtain ⟨ri, hri⟩ : ∃ ri, refI (pl R) s.data.toList = ri := ⟨_, rfl⟩
    obtain ⟨no, hno⟩ : ∃ no, refE (pl R) s.data.toList = no := ⟨_, rfl⟩
    rw [hno] at hne hre
    rw [hre, hbs] at hrd
    have HRD := Lib.hid hrd
    have HE := Lib.hid (show readE (pl R) s.data.toList = no ∧ lastsP (pl R) s.data.toList = 0 ∧ refI (pl R) s.data.toList = ri ∧ refE (pl R) s.data.toList = no from ⟨hre, hla, hri, hno⟩)
    have hne1 : (no != 0) = true := by simp [hne]
    have hne2 : (no == 0) = false := by rw [beq_eq_false_iff_ne]; exact hne
    clear hrd hM h hf hs hl hro hre hbs hla hno hri
    go_enter Try.func11, Try.ntmps11
    go_wp2_with fail
    refine HRD.out.mono ?_
    rintro e w1 ⟨vb, rfl, ho1, hb1⟩
    obtain ⟨Ab, nb, cb, rfl⟩ := ho1.shape
    have HO1 := Lib.hid ho1
    have HB1 := Lib.hid hb1
    clear ho1 hb1 HRD
    go_wp2_with fail
    have hla1 := HLS.out w1 HB1.out
    rw [HE.out.2.1, HE.out.1] at hla1
    refine hla1.mono ?_
    rintro e w2 ⟨rfl, hb2⟩
    have HB2 := Lib.hid (HB1.out.trans (hb2.mono HB1.out.size))
    have HO2 := Lib.hid (HO1.out.below (hb2.mono (Nat.le_refl _)) (Nat.le_refl _))
    clear hb2 hla1 HO1
    go_wp2_with fail
    have hfi := HFI.out w2 HB2.out
    rw [HE.out.2.2.1, HE.out.2.2.2] at hfi
    refine hfi.mono ?_
    rintro e w3 ⟨rfl, hb3⟩
    have HB3 := Lib.hid (HB2.out.trans (hb3.mono HB2.out.size))
    have HO3 := Lib.hid (HO2.out.below hb3 (Nat.le_refl _))
    clear hb3 hfi HO2 HB1 HB2
    obtain rfl : nb = 0 := by have := HO3.out.sl.len; simpa using this
    go_wp2_with fail
    refine (num_any _ _).mono ?_
    rintro e wx ⟨rfl, hwx⟩
    rw [hwx]
    clear hwx wx
    go_wp2_with fail
    refine (num_any _ _).mono ?_
    rintro e wx ⟨rfl, hwx⟩
    rw [hwx]
    clear hwx wx
    go_wp2_with fail
    go_loopw [15] (fun z wr => z = .int .i64 0 ∧ wr = w3) (fun _ _ => 0)
    case atStart => exact ⟨rfl, rfl⟩
    case round =>
      obtain ⟨rfl, rfl⟩ := hrel
      have HBB := HB3
      go_wp2_with fail
      have HB9 := Lib.hid (show ∀ X, Below wr.drew.heap.size wr.drew X → Below W.heap.size W X from fun X hX => (HBB.out.trans ((Below.refl _ _).drew.mono HBB.out.size)).trans (hX.mono (Nat.le_trans HBB.out.size (Nat.le_refl _))))
      refine wp_region_held_drew (S := fun X => Below wr.drew.heap.size wr.drew X) hfo (Below.refl _ _) (fun hS0 => ?_)
      generalize wr.drew = Z0 at hS0 HB9 ⊢
      refine' wpAnyH_take (i := 0) (oi := ⟨some 91, _, _, _, _, _⟩) (v := _) rfl (by kernel_rfl) (by kernel_rfl) (by kernel_rfl) (fun _ _ _ h => h) (Or.inl ⟨by rfl, ?y0n⟩) hS0 ?r0n
      case y0n => (intro w' hSw; have s3 := HC3.out w' (HB9.out w' hSw); have s4 := HC4.out w' (HB9.out w' hSw); go_simp; try rfl)
      try simp only [Act.put, List.setIfInBounds_toArray, List.set_cons_zero, List.set_cons_succ]
      refine' wpAnyH_take (i := 2) (oi := ⟨some 93, _, _, _, _, _⟩) (v := _) rfl (by kernel_rfl) (by kernel_rfl) (by kernel_rfl) (fun _ _ _ h => h) (Or.inl ⟨by rfl, ?y2n⟩) hS0 ?r2n
      case y2n => (intro w' hSw; have s3 := HC3.out w' (HB9.out w' hSw); have s4 := HC4.out w' (HB9.out w' hSw); go_simp; try rfl)
      try simp only [Act.put, List.setIfInBounds_toArray, List.set_cons_zero, List.set_cons_succ]
      refine held_one (i := 1) (by kernel_rfl) rfl (fun K hK => ?_)
      go_simp
      refine (HRM.out _ (HB9.out _ hS0)).mono ?_
      rintro e Z1 ⟨rfl, hz⟩
      have hS1 := hS0.trans (hz.mono hS0.size)
      clear hz
      refine hK.out _ _ hS1 (fun _ => ?_)
      clear hK K
      try simp only [Act.put, List.setIfInBounds_toArray, List.set_cons_zero, List.set_cons_succ]
      refine held_one (i := 3) (by kernel_rfl) rfl (fun K hK => ?_)
      go_simp
      refine (HRR.out _ (HB9.out _ hS1)).mono ?_
      rintro e Z2 ⟨rfl, hz⟩
      have hS2 := hS1.trans (hz.mono hS1.size)
      clear hz
      refine hK.out _ _ hS2 (fun _ => ?_)
      clear hK K
      try simp only [Act.put, List.setIfInBounds_toArray, List.set_cons_zero, List.set_cons_succ]
      refine' wpAnyH_take (i := 4) (oi := ⟨some 95, _, _, _, _, _⟩) (v := _) rfl (by kernel_rfl) (by kernel_rfl) (by kernel_rfl) (fun _ _ _ h => h) (Or.inl ⟨by rfl, ?y4n⟩) hS2 ?r4n
      case y4n => (intro w' hSw; have s3 := HC3.out w' (HB9.out w' hSw); have s4 := HC4.out w' (HB9.out w' hSw); go_simp; try rfl)
      try simp only [Act.put, List.setIfInBounds_toArray, List.set_cons_zero, List.set_cons_succ]
      refine' wpAnyH_take (i := 5) (oi := ⟨some 96, _, _, _, _, _⟩) (v := _) rfl (by kernel_rfl) (by kernel_rfl) (by kernel_rfl) (fun _ _ _ h => h) (Or.inl ⟨by rfl, ?y5n⟩) hS2 ?r5n
      case y5n => (intro w' hSw; have s3 := HC3.out w' (HB9.out w' hSw); have s4 := HC4.out w' (HB9.out w' hSw); go_simp; try rfl)
      try simp only [Act.put, List.setIfInBounds_toArray, List.set_cons_zero, List.set_cons_succ]
      refine' wpAnyH_take (i := 6) (oi := ⟨some 97, _, _, _, _, _⟩) (v := _) rfl (by kernel_rfl) (by kernel_rfl) (by kernel_rfl) (fun _ _ _ h => h) (Or.inl ⟨by rfl, ?y6n⟩) hS2 ?r6n
      case y6n => (intro w' hSw; have s3 := HC3.out w' (HB9.out w' hSw); have s4 := HC4.out w' (HB9.out w' hSw); go_simp; try rfl)
      try simp only [Act.put, List.setIfInBounds_toArray, List.set_cons_zero, List.set_cons_succ]
      refine' wpAnyH_take (i := 8) (oi := ⟨some 99, _, _, _, _, _⟩) (v := _) rfl (by kernel_rfl) (by kernel_rfl) (by kernel_rfl) (fun _ _ _ h => h) (Or.inl ⟨by rfl, ?y8n⟩) hS2 ?r8n
      case y8n => (intro w' hSw; have s3 := HC3.out w' (HB9.out w' hSw); have s4 := HC4.out w' (HB9.out w' hSw); go_simp; try rfl)
      try simp only [Act.put, List.setIfInBounds_toArray, List.set_cons_zero, List.set_cons_succ]
      refine' wpAnyH_take (i := 9) (oi := ⟨some 100, _, _, _, _, _⟩) (v := _) rfl (by kernel_rfl) (by kernel_rfl) (by kernel_rfl) (fun _ _ _ h => h) (Or.inl ⟨by rfl, ?y9n⟩) hS2 ?r9n
      case y9n => (intro w' hSw; have s3 := HC3.out w' (HB9.out w' hSw); have s4 := HC4.out w' (HB9.out w' hSw); go_simp; try rfl)
      try simp only [Act.put, List.setIfInBounds_toArray, List.set_cons_zero, List.set_cons_succ]
      refine' wpAnyH_take (i := 10) (oi := ⟨some 101, _, _, _, _, _⟩) (v := _) rfl (by kernel_rfl) (by kernel_rfl) (by kernel_rfl) (fun _ _ _ h => h) (Or.inl ⟨by rfl, ?y10n⟩) hS2 ?r10n
      case y10n => (intro w' hSw; have s3 := HC3.out w' (HB9.out w' hSw); have s4 := HC4.out w' (HB9.out w' hSw); go_simp; try rfl)
      try simp only [Act.put, List.setIfInBounds_toArray, List.set_cons_zero, List.set_cons_succ]
      refine' wpAnyH_take (i := 11) (oi := ⟨some 102, _, _, _, _, _⟩) (v := _) rfl (by kernel_rfl) (by kernel_rfl) (by kernel_rfl) (fun _ _ _ h => h) (Or.inl ⟨by rfl, ?y11n⟩) hS2 ?r11n
      case y11n => (intro w' hSw; have s3 := HC3.out w' (HB9.out w' hSw); have s4 := HC4.out w' (HB9.out w' hSw); go_simp; try rfl)
      try simp only [Act.put, List.setIfInBounds_toArray, List.set_cons_zero, List.set_cons_succ]
      refine held_one (i := 7) (by kernel_rfl) rfl (fun K hK => ?_)
      go_simp
      refine (HDE.out _ (HB9.out _ hS2)).mono ?_
      rintro e Z3 ⟨rfl, hz⟩
      have hS3 := hS2.trans (hz.mono hS2.size)
      clear hz
      refine hK.out _ _ hS3 (fun _ => ?_)
      clear hK K
      try simp only [Act.put, List.setIfInBounds_toArray, List.set_cons_zero, List.set_cons_succ]
      refine' wpAnyH_take (i := 12) (oi := ⟨some 103, _, _, _, _, _⟩) (v := _) rfl (by kernel_rfl) (by kernel_rfl) (by kernel_rfl) (fun _ _ _ h => h) (Or.inl ⟨by rfl, ?y12n⟩) hS3 ?r12n
      case y12n => (intro w' hSw; have s3 := HC3.out w' (HB9.out w' hSw); have s4 := HC4.out w' (HB9.out w' hSw); go_simp; try rfl)
      try simp only [Act.put, List.setIfInBounds_toArray, List.set_cons_zero, List.set_cons_succ]
      refine' wpAnyH_take (i := 13) (oi := ⟨some 104, _, _, _, _, _⟩) (v := _) rfl (by kernel_rfl) (by kernel_rfl) (by kernel_rfl) (fun _ _ _ h => h) (Or.inl ⟨by rfl, ?y13n⟩) hS3 ?r13n
      case y13n => (intro w' hSw; have s3 := HC3.out w' (HB9.out w' hSw); have s4 := HC4.out w' (HB9.out w' hSw); go_simp; try rfl)
      try simp only [Act.put, List.setIfInBounds_toArray, List.set_cons_zero, List.set_cons_succ]
      refine' wpAnyH_take (i := 14) (oi := ⟨some 105, _, _, _, _, _⟩) (v := _) rfl (by kernel_rfl) (by kernel_rfl) (by kernel_rfl) (fun _ _ _ h => h) (Or.inl ⟨by rfl, ?y14n⟩) hS3 ?r14n
      case y14n => (intro w' hSw; have s3 := HC3.out w' (HB9.out w' hSw); have s4 := HC4.out w' (HB9.out w' hSw); go_simp; try rfl)
      try simp only [Act.put, List.setIfInBounds_toArray, List.set_cons_zero, List.set_cons_succ]
      refine' wpAnyH_take (i := 15) (oi := ⟨some 106, _, _, _, _, _⟩) (v := _) rfl (by kernel_rfl) (by kernel_rfl) (by kernel_rfl) (fun _ _ _ h => h) (Or.inl ⟨by rfl, ?y15n⟩) hS3 ?r15n
      case y15n => (intro w' hSw; have s3 := HC3.out w' (HB9.out w' hSw); have s4 := HC4.out w' (HB9.out w' hSw); go_simp; try rfl)
      try simp only [Act.put, List.setIfInBounds_toArray, List.set_cons_zero, List.set_cons_succ]
      refine' wpAnyH_take (i := 17) (oi := ⟨some 108, _, _, _, _, _⟩) (v := _) rfl (by kernel_rfl) (by kernel_rfl) (by kernel_rfl) (fun _ _ _ h => h) (Or.inl ⟨by rfl, ?y17n⟩) hS3 ?r17n
      case y17n => (intro w' hSw; have s3 := HC3.out w' (HB9.out w' hSw); have s4 := HC4.out w' (HB9.out w' hSw); go_simp; try rfl)
      try simp only [Act.put, List.setIfInBounds_toArray, List.set_cons_zero, List.set_cons_succ]
      refine' wpAnyH_take (i := 18) (oi := ⟨some 109, _, _, _, _, _⟩) (v := _) rfl (by kernel_rfl) (by kernel_rfl) (by kernel_rfl) (fun _ _ _ h => h) (Or.inl ⟨by rfl, ?y18n⟩) hS3 ?r18n
      case y18n => (intro w' hSw; have s3 := HC3.out w' (HB9.out w' hSw); have s4 := HC4.out w' (HB9.out w' hSw); go_simp; try rfl)
      try simp only [Act.put, List.setIfInBounds_toArray, List.set_cons_zero, List.set_cons_succ]
      refine' wpAnyH_take (i := 19) (oi := ⟨some 110, _, _, _, _, _⟩) (v := _) rfl (by kernel_rfl) (by kernel_rfl) (by kernel_rfl) (fun _ _ _ h => h) (Or.inl ⟨by rfl, ?y19n⟩) hS3 ?r19n
      case y19n => (intro w' hSw; have s3 := HC3.out w' (HB9.out w' hSw); have s4 := HC4.out w' (HB9.out w' hSw); go_simp; try rfl)
      try simp only [Act.put, List.setIfInBounds_toArray, List.set_cons_zero, List.set_cons_succ]
      refine' wpAnyH_take (i := 20) (oi := ⟨some 111, _, _, _, _, _⟩) (v := _) rfl (by kernel_rfl) (by kernel_rfl) (by kernel_rfl) (fun _ _ _ h => h) (Or.inl ⟨by rfl, ?y20n⟩) hS3 ?r20n
      case y20n => (intro w' hSw; have s3 := HC3.out w' (HB9.out w' hSw); have s4 := HC4.out w' (HB9.out w' hSw); go_simp; try rfl)
      try simp only [Act.put, List.setIfInBounds_toArray, List.set_cons_zero, List.set_cons_succ]
      refine held_one (i := 16) (by kernel_rfl) rfl (fun K hK => ?_)
      go_simp
      refine (HWR.out _ (HB9.out _ hS3)).mono ?_
      rintro e Z4 ⟨rfl, hz⟩
      have hS4 := hS3.trans (hz.mono hS3.size)
      clear hz
      refine hK.out _ _ hS4 (fun _ => ?_)
      clear hK K
      try simp only [Act.put, List.setIfInBounds_toArray, List.set_cons_zero, List.set_cons_succ]
      refine' wpAnyH_take (i := 21) (oi := ⟨some 112, _, _, _, _, _⟩) (v := _) rfl (by kernel_rfl) (by kernel_rfl) (by kernel_rfl) (fun _ _ _ h => h) (Or.inl ⟨by rfl, ?y21n⟩) hS4 ?r21n
      case y21n => (intro w' hSw; have s3 := HC3.out w' (HB9.out w' hSw); have s4 := HC4.out w' (HB9.out w' hSw); go_simp; try rfl)
      try simp only [Act.put, List.setIfInBounds_toArray, List.set_cons_zero, List.set_cons_succ]
      refine' wpAnyH_take (i := 22) (oi := ⟨some 113, _, _, _, _, _⟩) (v := _) rfl (by kernel_rfl) (by kernel_rfl) (by kernel_rfl) (fun _ _ _ h => h) (Or.inl ⟨by rfl, ?y22n⟩) hS4 ?r22n
      case y22n => (intro w' hSw; have s3 := HC3.out w' (HB9.out w' hSw); have s4 := HC4.out w' (HB9.out w' hSw); go_simp; try rfl)
      try simp only [Act.put, List.setIfInBounds_toArray, List.set_cons_zero, List.set_cons_succ]
      refine' wpAnyH_take (i := 23) (oi := ⟨some 114, _, _, _, _, _⟩) (v := _) rfl (by kernel_rfl) (by kernel_rfl) (by kernel_rfl) (fun _ _ _ h => h) (Or.inl ⟨by rfl, ?y23n⟩) hS4 ?r23n
      case y23n => (intro w' hSw; have s3 := HC3.out w' (HB9.out w' hSw); have s4 := HC4.out w' (HB9.out w' hSw); go_simp; try rfl)
      try simp only [Act.put, List.setIfInBounds_toArray, List.set_cons_zero, List.set_cons_succ]
      refine' wpAnyH_take (i := 24) (oi := ⟨some 115, _, _, _, _, _⟩) (v := _) rfl (by kernel_rfl) (by kernel_rfl) (by kernel_rfl) (fun _ _ _ h => h) (Or.inl ⟨by rfl, ?y24n⟩) hS4 ?r24n
      case y24n => (intro w' hSw; have s3 := HC3.out w' (HB9.out w' hSw); have s4 := HC4.out w' (HB9.out w' hSw); go_simp; try rfl)
      try simp only [Act.put, List.setIfInBounds_toArray, List.set_cons_zero, List.set_cons_succ]
      refine' wpAnyH_take (i := 25) (oi := ⟨some 116, _, _, _, _, _⟩) (v := _) rfl (by kernel_rfl) (by kernel_rfl) (by kernel_rfl) (fun _ _ _ h => h) (Or.inl ⟨by rfl, ?y25n⟩) hS4 ?r25n
      case y25n => (intro w' hSw; have s3 := HC3.out w' (HB9.out w' hSw); have s4 := HC4.out w' (HB9.out w' hSw); go_simp; try rfl)
      try simp only [Act.put, List.setIfInBounds_toArray, List.set_cons_zero, List.set_cons_succ]
      refine' wpAnyH_take (i := 26) (oi := ⟨some 117, _, _, _, _, _⟩) (v := _) rfl (by kernel_rfl) (by kernel_rfl) (by kernel_rfl) (fun _ _ _ h => h) (Or.inl ⟨by rfl, ?y26n⟩) hS4 ?r26n
      case y26n => (intro w' hSw; have s3 := HC3.out w' (HB9.out w' hSw); have s4 := HC4.out w' (HB9.out w' hSw); go_simp; try rfl)
      try simp only [Act.put, List.setIfInBounds_toArray, List.set_cons_zero, List.set_cons_succ]
      refine held_one (i := 27) (by kernel_rfl) rfl (fun K hK => ?_)
      go_simp
      refine (HON.out _ (HB9.out _ hS4) leave).mono ?_
      rintro e Z5 ⟨rfl, hz⟩
      have hS5 := hS4.trans (hz.mono hS4.size)
      clear hz
      refine hK.out _ _ hS5 (fun _ => ?_)
      clear hK K
      try simp only [Act.put, List.setIfInBounds_toArray, List.set_cons_zero, List.set_cons_succ]
      refine' wpAnyH_take (i := 28) (oi := ⟨some 119, _, _, _, _, _⟩) (v := _) rfl (by kernel_rfl) (by kernel_rfl) (by kernel_rfl) (fun _ _ _ h => h) (Or.inl ⟨by rfl, ?y28n⟩) hS5 ?r28n
      case y28n => (intro w' hSw; have s3 := HC3.out w' (HB9.out w' hSw); have s4 := HC4.out w' (HB9.out w' hSw); go_simp; try rfl)
      try simp only [Act.put, List.setIfInBounds_toArray, List.set_cons_zero, List.set_cons_succ]
      refine' wpAnyH_take (i := 29) (oi := ⟨some 120, _, _, _, _, _⟩) (v := _) rfl (by kernel_rfl) (by kernel_rfl) (by kernel_rfl) (fun _ _ _ h => h) (Or.inl ⟨by rfl, ?y29n⟩) hS5 ?r29n
      case y29n => (intro w' hSw; have s3 := HC3.out w' (HB9.out w' hSw); have s4 := HC4.out w' (HB9.out w' hSw); go_simp; try rfl)
      try simp only [Act.put, List.setIfInBounds_toArray, List.set_cons_zero, List.set_cons_succ]
      refine' wpAnyH_take (i := 30) (oi := ⟨some 121, _, _, _, _, _⟩) (v := _) rfl (by kernel_rfl) (by kernel_rfl) (by kernel_rfl) (fun _ _ _ h => h) (Or.inl ⟨by rfl, ?y30n⟩) hS5 ?r30n
      case y30n => (intro w' hSw; have s3 := HC3.out w' (HB9.out w' hSw); have s4 := HC4.out w' (HB9.out w' hSw); go_simp; try rfl)
      try simp only [Act.put, List.setIfInBounds_toArray, List.set_cons_zero, List.set_cons_succ]
      refine' wpAnyH_take (i := 31) (oi := ⟨some 122, _, _, _, _, _⟩) (v := _) rfl (by kernel_rfl) (by kernel_rfl) (by kernel_rfl) (fun _ _ _ h => h) (Or.inl ⟨by rfl, ?y31n⟩) hS5 ?r31n
      case y31n => (intro w' hSw; have s3 := HC3.out w' (HB9.out w' hSw); have s4 := HC4.out w' (HB9.out w' hSw); go_simp; try rfl)
      try simp only [Act.put, List.setIfInBounds_toArray, List.set_cons_zero, List.set_cons_succ]
      refine held_one (i := 32) (by kernel_rfl) rfl (fun K hK => ?_)
      go_simp
      refine (HON.out _ (HB9.out _ hS5) 0).mono ?_
      rintro e Z6 ⟨rfl, hz⟩
      have hS6 := hS5.trans (hz.mono hS5.size)
      clear hz
      refine hK.out _ _ hS6 (fun _ => ?_)
      clear hK K
      try simp only [Act.put, List.setIfInBounds_toArray, List.set_cons_zero, List.set_cons_succ]
      refine' wpAnyH_take (i := 33) (oi := ⟨some 124, _, _, _, _, _⟩) (v := _) rfl (by kernel_rfl) (by kernel_rfl) (by kernel_rfl) (fun _ _ _ h => h) (Or.inl ⟨by rfl, ?y33n⟩) hS6 ?r33n
      case y33n => (intro w' hSw; have s3 := HC3.out w' (HB9.out w' hSw); have s4 := HC4.out w' (HB9.out w' hSw); go_simp; try rfl)
      try simp only [Act.put, List.setIfInBounds_toArray, List.set_cons_zero, List.set_cons_succ]
      refine' wpAnyH_take (i := 34) (oi := ⟨some 8, _, _, _, _, _⟩) (v := _) rfl (by kernel_rfl) (by kernel_rfl) (by kernel_rfl) (fun _ _ _ h => h) (Or.inl ⟨by rfl, ?y34n⟩) hS6 ?r34n
      case y34n => (intro w' hSw; have s3 := HC3.out w' (HB9.out w' hSw); have s4 := HC4.out w' (HB9.out w' hSw); go_simp; try rfl)
      try simp only [Act.put, List.setIfInBounds_toArray, List.set_cons_zero, List.set_cons_succ]
      refine wpAnyH_done (by kernel_rfl) ?_ _
      have HEND := Lib.hid (HB9.out _ hS6)
      clear HB9
      go_wp2
      go_ret
      exact ⟨rfl, HEND.out⟩
  · obtain ⟨f, hfk⟩ : ∃ f, R[k] = f := ⟨_, rfl⟩
    have hfl : f.bs.length ≤ 16777216 := by
      have h1 := mem_total (List.mem_map.2 ⟨f, hfk ▸ List.getElem_mem hk, rfl⟩ : f.p ∈ pl R)
      have h1 : f.bs.length ≤ totalP (pl R) := h1
      have := hf.cap
      have := hf.room
      omega
    have hbs : bytesP (pl R) s.data.toList = f.bs := hbs.trans (congrArg Fr.bs hfk)
    have hla : lastsP (pl R) s.data.toList = f.la := hla.trans (congrArg Fr.la hfk)
    rw [hre, hbs] at hrd
    have HRD := Lib.hid hrd
    have HE := Lib.hid (show readE (pl R) s.data.toList = 0 ∧ lastsP (pl R) s.data.toList = f.la ∧ refI (pl R) s.data.toList = k ∧ refE (pl R) s.data.toList = 0 from ⟨hre, hla, hri, hne⟩)
    obtain ⟨A, c, hv, _, _⟩ := h.row.shape
    have HC0 := Lib.hid (show ∀ X, Below W.heap.size W X → X.cell? ⟨q, 0, none⟩ = some (.slice A R.length c) from fun X hX => by have := (h.below hX).c0; rw [hv] at this; exact this)
    have HFO := Lib.hid (show ∀ X, Below W.heap.size W X → ∃ g A1 c1, A = some ⟨g, 0, none⟩ ∧ X.cell? ⟨g, k * 3 + 1, none⟩ = some (.slice A1 f.bs.length c1) ∧ X.cell? ⟨g, k * 3 + 2, none⟩ = some (.int .i64 (f.la : Int)) ∧ Sl X (.slice A1 f.bs.length c1) f.bs from fun X hX => by
      obtain ⟨g, A1, c1, sn, e1, e2, e3, e4, e5, e6, e7⟩ := (h.below hX).fileOf hv hk hfk
      exact ⟨g, A1, c1, e1, e5, e6, e7.sl⟩)
    have hkI : (k : Int) < (R.length : Int) := by omega
    have hk0 : (0 : Int) ≤ (k : Int) := by omega
    have h64 : (k : Int) < 64 := by omega
    clear hrd hM h hf hs hl hro hre hbs hla hne hri hfk hv
    go_enter Try.func11, Try.ntmps11
    go_wp2_with fail
    refine HRD.out.mono ?_
    rintro e w1 ⟨vb, rfl, ho1, hb1⟩
    obtain ⟨Ab, nb, cb, rfl⟩ := ho1.shape
    have HO1 := Lib.hid ho1
    have HB1 := Lib.hid hb1
    clear ho1 hb1 HRD
    go_wp2_with fail
    have hla1 := HLS.out w1 HB1.out
    rw [HE.out.2.1, HE.out.1] at hla1
    refine hla1.mono ?_
    rintro e w2 ⟨rfl, hb2⟩
    have HB2 := Lib.hid (HB1.out.trans (hb2.mono HB1.out.size))
    have HO2 := Lib.hid (HO1.out.below (hb2.mono (Nat.le_refl _)) (Nat.le_refl _))
    clear hb2 hla1 HO1
    go_wp2_with fail
    have hfi := HFI.out w2 HB2.out
    rw [HE.out.2.2.1, HE.out.2.2.2] at hfi
    refine hfi.mono ?_
    rintro e w3 ⟨rfl, hb3⟩
    have HB3 := Lib.hid (HB2.out.trans (hb3.mono HB2.out.size))
    have HO3 := Lib.hid (HO2.out.below hb3 (Nat.le_refl _))
    clear hb3 hfi HO2 HB1 HB2
    obtain rfl : nb = f.bs.length := HO3.out.sl.len
    go_wp2_with fail
    refine (num_any _ _).mono ?_
    rintro e wx ⟨rfl, hwx⟩
    rw [hwx]
    clear hwx wx
    go_wp2_with fail
    refine (num_any _ _).mono ?_
    rintro e wx ⟨rfl, hwx⟩
    rw [hwx]
    clear hwx wx
    have x0 := HC0.out w3 HB3.out
    obtain ⟨g, A1, c1, rfl, x1, x2, x3⟩ := HFO.out w3 HB3.out
    have k1 : ∀ n, (convert 38 9 (.slice A1 f.bs.length c1)).run Try.prog (w3.drewN n) = .ok (.string ⟨f.bs.toArray⟩) (w3.drewN n) := fun n => (x3.drewN n).conv Try.underlying38 Try.underlying5 Try.underlying9
    have k2 : ∀ n, (convert 38 9 (.slice Ab f.bs.length cb)).run Try.prog (w3.drewN n) = .ok (.string ⟨f.bs.toArray⟩) (w3.drewN n) := fun n => (HO3.out.sl.drewN n).conv Try.underlying38 Try.underlying5 Try.underlying9
    obtain ⟨b1, hb1⟩ : ∃ b1 : ByteArray, b1 = ⟨f.bs.toArray⟩ := ⟨_, rfl⟩
    rw [← hb1] at k1 k2
    have l1 : (f.la != f.la) = false := by simp
    have l2 : ((f.la : Int) != (f.la : Int)) = false := by simp
    have m2 : (b1.toList != b1.toList) = false := by simp
    clear hb1
    go_wp2_with fail
    go_quiet (fail)
    have HB4 := Lib.hid (show Below W.heap.size W (w3.drewN nq) from below_drewN HB3.out _)
    have HO4 := Lib.hid (show Own (w3.drewN nq) W.heap.size 5 (.slice Ab f.bs.length cb) f.bs from HO3.out)
    clear x0 x1 x2 x3 k1 k2 l1 l2 m2
    generalize w3.drewN nq = w4 at HB4 HO4 ⊢
    go_wp2_with fail
    go_loopw [15] (fun z wr => ∃ (j : Nat) (bs : List UInt8), j ≤ f.bs.length ∧ z = .int .i64 (j : Int) ∧ bs.length = f.bs.length ∧ Own wr W.heap.size 5 (.slice Ab f.bs.length cb) bs ∧ Below W.heap.size W wr) (fun z _ => f.bs.length - (intOf z).toNat)
    case atStart => exact ⟨0, f.bs, Nat.zero_le _, rfl, rfl, HO4.out, HB4.out⟩
    case round =>
      obtain ⟨j, bs, hj, rfl, hbl, ho, hb⟩ := hrel
      have HO5 := Lib.hid ho
      have HBB := Lib.hid hb
      have HBL := Lib.hid hbl
      clear ho hb
      by_cases hlt : j < f.bs.length
      · have hltI : (j : Int) < (f.bs.length : Int) := by omega
        have hj0 : (0 : Int) ≤ (j : Int) := by omega
        have hj24 : (j : Int) < 16777216 := by omega
        obtain ⟨g9, rfl, hg9, y0, y1⟩ := HO5.out.byteAt j (by omega)
        obtain ⟨x, hx⟩ : ∃ x, x = (bs[j]'(by omega)).toNat := ⟨_, rfl⟩
        have y9 : wr.cell? ⟨g9, j, none⟩ = some (.int .u8 (x : Int)) := y0.trans (congrArg (fun z => some (Value.int .u8 ((z : Nat) : Int))) hx.symm)
        have hx256 : x < 256 := by rw [hx]; exact UInt8.toNat_lt _
        clear y0
        obtain ⟨b9, hw9⟩ := wrap_u8 x hx256
        have hO6 := HO5.out.put j b9
        unfold bv at hO6
        have HO6 := Lib.hid hO6
        have HB6 := Lib.hid (HBB.out.setCell (p := ⟨g9, j, none⟩) hg9 (.int .u8 (b9.toNat : Int)))
        have HG9 := Lib.hid hg9
        have HLT := Lib.hid hlt
        clear hO6 hx hbl hg9
        go_wp2
        go_round
        case rel => exact ⟨j + 1, bs.set j b9, HLT.out, by go_num, by rw [List.length_set]; exact HBL.out, HO6.out, HB6.out⟩
        case measure => simp [intOf]; omega
      · obtain rfl : j = f.bs.length := by omega
        clear hlt hj
        go_wp2_with fail
        have HB9 := Lib.hid (show ∀ X, Below wr.drew.heap.size wr.drew X → Below W.heap.size W X from fun X hX => (HBB.out.trans ((Below.refl _ _).drew.mono HBB.out.size)).trans (hX.mono (Nat.le_trans HBB.out.size (Nat.le_refl _))))
        refine wp_region_held_drew (S := fun X => Below wr.drew.heap.size wr.drew X) hfo (Below.refl _ _) (fun hS0 => ?_)
        generalize wr.drew = Z0 at hS0 HB9 ⊢
        refine' wpAnyH_take (i := 0) (oi := ⟨some 91, _, _, _, _, _⟩) (v := _) rfl (by kernel_rfl) (by kernel_rfl) (by kernel_rfl) (fun _ _ _ h => h) (Or.inl ⟨by rfl, ?y0t⟩) hS0 ?r0t
        case y0t => (intro w' hSw; have s3 := HC3.out w' (HB9.out w' hSw); have s4 := HC4.out w' (HB9.out w' hSw); go_simp; try rfl)
        try simp only [Act.put, List.setIfInBounds_toArray, List.set_cons_zero, List.set_cons_succ]
        refine' wpAnyH_take (i := 2) (oi := ⟨some 93, _, _, _, _, _⟩) (v := _) rfl (by kernel_rfl) (by kernel_rfl) (by kernel_rfl) (fun _ _ _ h => h) (Or.inl ⟨by rfl, ?y2t⟩) hS0 ?r2t
        case y2t => (intro w' hSw; have s3 := HC3.out w' (HB9.out w' hSw); have s4 := HC4.out w' (HB9.out w' hSw); go_simp; try rfl)
        try simp only [Act.put, List.setIfInBounds_toArray, List.set_cons_zero, List.set_cons_succ]
        refine held_one (i := 1) (by kernel_rfl) rfl (fun K hK => ?_)
        go_simp
        refine (HRM.out _ (HB9.out _ hS0)).mono ?_
        rintro e Z1 ⟨rfl, hz⟩
        have hS1 := hS0.trans (hz.mono hS0.size)
        clear hz
        refine hK.out _ _ hS1 (fun _ => ?_)
        clear hK K
        try simp only [Act.put, List.setIfInBounds_toArray, List.set_cons_zero, List.set_cons_succ]
        refine held_one (i := 3) (by kernel_rfl) rfl (fun K hK => ?_)
        go_simp
        refine (HRR.out _ (HB9.out _ hS1)).mono ?_
        rintro e Z2 ⟨rfl, hz⟩
        have hS2 := hS1.trans (hz.mono hS1.size)
        clear hz
        refine hK.out _ _ hS2 (fun _ => ?_)
        clear hK K
        try simp only [Act.put, List.setIfInBounds_toArray, List.set_cons_zero, List.set_cons_succ]
        refine' wpAnyH_take (i := 4) (oi := ⟨some 95, _, _, _, _, _⟩) (v := _) rfl (by kernel_rfl) (by kernel_rfl) (by kernel_rfl) (fun _ _ _ h => h) (Or.inl ⟨by rfl, ?y4t⟩) hS2 ?r4t
        case y4t => (intro w' hSw; have s3 := HC3.out w' (HB9.out w' hSw); have s4 := HC4.out w' (HB9.out w' hSw); go_simp; try rfl)
        try simp only [Act.put, List.setIfInBounds_toArray, List.set_cons_zero, List.set_cons_succ]
        refine' wpAnyH_take (i := 5) (oi := ⟨some 96, _, _, _, _, _⟩) (v := _) rfl (by kernel_rfl) (by kernel_rfl) (by kernel_rfl) (fun _ _ _ h => h) (Or.inl ⟨by rfl, ?y5t⟩) hS2 ?r5t
        case y5t => (intro w' hSw; have s3 := HC3.out w' (HB9.out w' hSw); have s4 := HC4.out w' (HB9.out w' hSw); go_simp; try rfl)
        try simp only [Act.put, List.setIfInBounds_toArray, List.set_cons_zero, List.set_cons_succ]
        refine' wpAnyH_take (i := 6) (oi := ⟨some 97, _, _, _, _, _⟩) (v := _) rfl (by kernel_rfl) (by kernel_rfl) (by kernel_rfl) (fun _ _ _ h => h) (Or.inl ⟨by rfl, ?y6t⟩) hS2 ?r6t
        case y6t => (intro w' hSw; have s3 := HC3.out w' (HB9.out w' hSw); have s4 := HC4.out w' (HB9.out w' hSw); go_simp; try rfl)
        try simp only [Act.put, List.setIfInBounds_toArray, List.set_cons_zero, List.set_cons_succ]
        refine' wpAnyH_take (i := 8) (oi := ⟨some 99, _, _, _, _, _⟩) (v := _) rfl (by kernel_rfl) (by kernel_rfl) (by kernel_rfl) (fun _ _ _ h => h) (Or.inl ⟨by rfl, ?y8t⟩) hS2 ?r8t
        case y8t => (intro w' hSw; have s3 := HC3.out w' (HB9.out w' hSw); have s4 := HC4.out w' (HB9.out w' hSw); go_simp; try rfl)
        try simp only [Act.put, List.setIfInBounds_toArray, List.set_cons_zero, List.set_cons_succ]
        refine' wpAnyH_take (i := 9) (oi := ⟨some 100, _, _, _, _, _⟩) (v := _) rfl (by kernel_rfl) (by kernel_rfl) (by kernel_rfl) (fun _ _ _ h => h) (Or.inl ⟨by rfl, ?y9t⟩) hS2 ?r9t
        case y9t => (intro w' hSw; have s3 := HC3.out w' (HB9.out w' hSw); have s4 := HC4.out w' (HB9.out w' hSw); go_simp; try rfl)
        try simp only [Act.put, List.setIfInBounds_toArray, List.set_cons_zero, List.set_cons_succ]
        refine' wpAnyH_take (i := 10) (oi := ⟨some 101, _, _, _, _, _⟩) (v := _) rfl (by kernel_rfl) (by kernel_rfl) (by kernel_rfl) (fun _ _ _ h => h) (Or.inl ⟨by rfl, ?y10t⟩) hS2 ?r10t
        case y10t => (intro w' hSw; have s3 := HC3.out w' (HB9.out w' hSw); have s4 := HC4.out w' (HB9.out w' hSw); go_simp; try rfl)
        try simp only [Act.put, List.setIfInBounds_toArray, List.set_cons_zero, List.set_cons_succ]
        refine' wpAnyH_take (i := 11) (oi := ⟨some 102, _, _, _, _, _⟩) (v := _) rfl (by kernel_rfl) (by kernel_rfl) (by kernel_rfl) (fun _ _ _ h => h) (Or.inl ⟨by rfl, ?y11t⟩) hS2 ?r11t
        case y11t => (intro w' hSw; have s3 := HC3.out w' (HB9.out w' hSw); have s4 := HC4.out w' (HB9.out w' hSw); go_simp; try rfl)
        try simp only [Act.put, List.setIfInBounds_toArray, List.set_cons_zero, List.set_cons_succ]
        refine held_one (i := 7) (by kernel_rfl) rfl (fun K hK => ?_)
        go_simp
        refine (HDE.out _ (HB9.out _ hS2)).mono ?_
        rintro e Z3 ⟨rfl, hz⟩
        have hS3 := hS2.trans (hz.mono hS2.size)
        clear hz
        refine hK.out _ _ hS3 (fun _ => ?_)
        clear hK K
        try simp only [Act.put, List.setIfInBounds_toArray, List.set_cons_zero, List.set_cons_succ]
        refine' wpAnyH_take (i := 12) (oi := ⟨some 103, _, _, _, _, _⟩) (v := _) rfl (by kernel_rfl) (by kernel_rfl) (by kernel_rfl) (fun _ _ _ h => h) (Or.inl ⟨by rfl, ?y12t⟩) hS3 ?r12t
        case y12t => (intro w' hSw; have s3 := HC3.out w' (HB9.out w' hSw); have s4 := HC4.out w' (HB9.out w' hSw); go_simp; try rfl)
        try simp only [Act.put, List.setIfInBounds_toArray, List.set_cons_zero, List.set_cons_succ]
        refine' wpAnyH_take (i := 13) (oi := ⟨some 104, _, _, _, _, _⟩) (v := _) rfl (by kernel_rfl) (by kernel_rfl) (by kernel_rfl) (fun _ _ _ h => h) (Or.inl ⟨by rfl, ?y13t⟩) hS3 ?r13t
        case y13t => (intro w' hSw; have s3 := HC3.out w' (HB9.out w' hSw); have s4 := HC4.out w' (HB9.out w' hSw); go_simp; try rfl)
        try simp only [Act.put, List.setIfInBounds_toArray, List.set_cons_zero, List.set_cons_succ]
        refine' wpAnyH_take (i := 14) (oi := ⟨some 105, _, _, _, _, _⟩) (v := _) rfl (by kernel_rfl) (by kernel_rfl) (by kernel_rfl) (fun _ _ _ h => h) (Or.inl ⟨by rfl, ?y14t⟩) hS3 ?r14t
        case y14t => (intro w' hSw; have s3 := HC3.out w' (HB9.out w' hSw); have s4 := HC4.out w' (HB9.out w' hSw); go_simp; try rfl)
        try simp only [Act.put, List.setIfInBounds_toArray, List.set_cons_zero, List.set_cons_succ]
        refine' wpAnyH_take (i := 15) (oi := ⟨some 106, _, _, _, _, _⟩) (v := _) rfl (by kernel_rfl) (by kernel_rfl) (by kernel_rfl) (fun _ _ _ h => h) (Or.inl ⟨by rfl, ?y15t⟩) hS3 ?r15t
        case y15t => (intro w' hSw; have s3 := HC3.out w' (HB9.out w' hSw); have s4 := HC4.out w' (HB9.out w' hSw); go_simp; try rfl)
        try simp only [Act.put, List.setIfInBounds_toArray, List.set_cons_zero, List.set_cons_succ]
        refine' wpAnyH_take (i := 17) (oi := ⟨some 108, _, _, _, _, _⟩) (v := _) rfl (by kernel_rfl) (by kernel_rfl) (by kernel_rfl) (fun _ _ _ h => h) (Or.inl ⟨by rfl, ?y17t⟩) hS3 ?r17t
        case y17t => (intro w' hSw; have s3 := HC3.out w' (HB9.out w' hSw); have s4 := HC4.out w' (HB9.out w' hSw); go_simp; try rfl)
        try simp only [Act.put, List.setIfInBounds_toArray, List.set_cons_zero, List.set_cons_succ]
        refine' wpAnyH_take (i := 18) (oi := ⟨some 109, _, _, _, _, _⟩) (v := _) rfl (by kernel_rfl) (by kernel_rfl) (by kernel_rfl) (fun _ _ _ h => h) (Or.inl ⟨by rfl, ?y18t⟩) hS3 ?r18t
        case y18t => (intro w' hSw; have s3 := HC3.out w' (HB9.out w' hSw); have s4 := HC4.out w' (HB9.out w' hSw); go_simp; try rfl)
        try simp only [Act.put, List.setIfInBounds_toArray, List.set_cons_zero, List.set_cons_succ]
        refine' wpAnyH_take (i := 19) (oi := ⟨some 110, _, _, _, _, _⟩) (v := _) rfl (by kernel_rfl) (by kernel_rfl) (by kernel_rfl) (fun _ _ _ h => h) (Or.inl ⟨by rfl, ?y19t⟩) hS3 ?r19t
        case y19t => (intro w' hSw; have s3 := HC3.out w' (HB9.out w' hSw); have s4 := HC4.out w' (HB9.out w' hSw); go_simp; try rfl)
        try simp only [Act.put, List.setIfInBounds_toArray, List.set_cons_zero, List.set_cons_succ]
        refine' wpAnyH_take (i := 20) (oi := ⟨some 111, _, _, _, _, _⟩) (v := _) rfl (by kernel_rfl) (by kernel_rfl) (by kernel_rfl) (fun _ _ _ h => h) (Or.inl ⟨by rfl, ?y20t⟩) hS3 ?r20t
        case y20t => (intro w' hSw; have s3 := HC3.out w' (HB9.out w' hSw); have s4 := HC4.out w' (HB9.out w' hSw); go_simp; try rfl)
        try simp only [Act.put, List.setIfInBounds_toArray, List.set_cons_zero, List.set_cons_succ]
        refine held_one (i := 16) (by kernel_rfl) rfl (fun K hK => ?_)
        go_simp
        refine (HWR.out _ (HB9.out _ hS3)).mono ?_
        rintro e Z4 ⟨rfl, hz⟩
        have hS4 := hS3.trans (hz.mono hS3.size)
        clear hz
        refine hK.out _ _ hS4 (fun _ => ?_)
        clear hK K
        try simp only [Act.put, List.setIfInBounds_toArray, List.set_cons_zero, List.set_cons_succ]
        refine' wpAnyH_take (i := 21) (oi := ⟨some 112, _, _, _, _, _⟩) (v := _) rfl (by kernel_rfl) (by kernel_rfl) (by kernel_rfl) (fun _ _ _ h => h) (Or.inl ⟨by rfl, ?y21t⟩) hS4 ?r21t
        case y21t => (intro w' hSw; have s3 := HC3.out w' (HB9.out w' hSw); have s4 := HC4.out w' (HB9.out w' hSw); go_simp; try rfl)
        try simp only [Act.put, List.setIfInBounds_toArray, List.set_cons_zero, List.set_cons_succ]
        refine' wpAnyH_take (i := 22) (oi := ⟨some 113, _, _, _, _, _⟩) (v := _) rfl (by kernel_rfl) (by kernel_rfl) (by kernel_rfl) (fun _ _ _ h => h) (Or.inl ⟨by rfl, ?y22t⟩) hS4 ?r22t
        case y22t => (intro w' hSw; have s3 := HC3.out w' (HB9.out w' hSw); have s4 := HC4.out w' (HB9.out w' hSw); go_simp; try rfl)
        try simp only [Act.put, List.setIfInBounds_toArray, List.set_cons_zero, List.set_cons_succ]
        refine' wpAnyH_take (i := 23) (oi := ⟨some 114, _, _, _, _, _⟩) (v := _) rfl (by kernel_rfl) (by kernel_rfl) (by kernel_rfl) (fun _ _ _ h => h) (Or.inl ⟨by rfl, ?y23t⟩) hS4 ?r23t
        case y23t => (intro w' hSw; have s3 := HC3.out w' (HB9.out w' hSw); have s4 := HC4.out w' (HB9.out w' hSw); go_simp; try rfl)
        try simp only [Act.put, List.setIfInBounds_toArray, List.set_cons_zero, List.set_cons_succ]
        refine' wpAnyH_take (i := 24) (oi := ⟨some 115, _, _, _, _, _⟩) (v := _) rfl (by kernel_rfl) (by kernel_rfl) (by kernel_rfl) (fun _ _ _ h => h) (Or.inl ⟨by rfl, ?y24t⟩) hS4 ?r24t
        case y24t => (intro w' hSw; have s3 := HC3.out w' (HB9.out w' hSw); have s4 := HC4.out w' (HB9.out w' hSw); go_simp; try rfl)
        try simp only [Act.put, List.setIfInBounds_toArray, List.set_cons_zero, List.set_cons_succ]
        refine' wpAnyH_take (i := 25) (oi := ⟨some 116, _, _, _, _, _⟩) (v := _) rfl (by kernel_rfl) (by kernel_rfl) (by kernel_rfl) (fun _ _ _ h => h) (Or.inl ⟨by rfl, ?y25t⟩) hS4 ?r25t
        case y25t => (intro w' hSw; have s3 := HC3.out w' (HB9.out w' hSw); have s4 := HC4.out w' (HB9.out w' hSw); go_simp; try rfl)
        try simp only [Act.put, List.setIfInBounds_toArray, List.set_cons_zero, List.set_cons_succ]
        refine' wpAnyH_take (i := 26) (oi := ⟨some 117, _, _, _, _, _⟩) (v := _) rfl (by kernel_rfl) (by kernel_rfl) (by kernel_rfl) (fun _ _ _ h => h) (Or.inl ⟨by rfl, ?y26t⟩) hS4 ?r26t
        case y26t => (intro w' hSw; have s3 := HC3.out w' (HB9.out w' hSw); have s4 := HC4.out w' (HB9.out w' hSw); go_simp; try rfl)
        try simp only [Act.put, List.setIfInBounds_toArray, List.set_cons_zero, List.set_cons_succ]
        refine held_one (i := 27) (by kernel_rfl) rfl (fun K hK => ?_)
        go_simp
        refine (HON.out _ (HB9.out _ hS4) leave).mono ?_
        rintro e Z5 ⟨rfl, hz⟩
        have hS5 := hS4.trans (hz.mono hS4.size)
        clear hz
        refine hK.out _ _ hS5 (fun _ => ?_)
        clear hK K
        try simp only [Act.put, List.setIfInBounds_toArray, List.set_cons_zero, List.set_cons_succ]
        refine' wpAnyH_take (i := 28) (oi := ⟨some 119, _, _, _, _, _⟩) (v := _) rfl (by kernel_rfl) (by kernel_rfl) (by kernel_rfl) (fun _ _ _ h => h) (Or.inl ⟨by rfl, ?y28t⟩) hS5 ?r28t
        case y28t => (intro w' hSw; have s3 := HC3.out w' (HB9.out w' hSw); have s4 := HC4.out w' (HB9.out w' hSw); go_simp; try rfl)
        try simp only [Act.put, List.setIfInBounds_toArray, List.set_cons_zero, List.set_cons_succ]
        refine' wpAnyH_take (i := 29) (oi := ⟨some 120, _, _, _, _, _⟩) (v := _) rfl (by kernel_rfl) (by kernel_rfl) (by kernel_rfl) (fun _ _ _ h => h) (Or.inl ⟨by rfl, ?y29t⟩) hS5 ?r29t
        case y29t => (intro w' hSw; have s3 := HC3.out w' (HB9.out w' hSw); have s4 := HC4.out w' (HB9.out w' hSw); go_simp; try rfl)
        try simp only [Act.put, List.setIfInBounds_toArray, List.set_cons_zero, List.set_cons_succ]
        refine' wpAnyH_take (i := 30) (oi := ⟨some 121, _, _, _, _, _⟩) (v := _) rfl (by kernel_rfl) (by kernel_rfl) (by kernel_rfl) (fun _ _ _ h => h) (Or.inl ⟨by rfl, ?y30t⟩) hS5 ?r30t
        case y30t => (intro w' hSw; have s3 := HC3.out w' (HB9.out w' hSw); have s4 := HC4.out w' (HB9.out w' hSw); go_simp; try rfl)
        try simp only [Act.put, List.setIfInBounds_toArray, List.set_cons_zero, List.set_cons_succ]
        refine' wpAnyH_take (i := 31) (oi := ⟨some 122, _, _, _, _, _⟩) (v := _) rfl (by kernel_rfl) (by kernel_rfl) (by kernel_rfl) (fun _ _ _ h => h) (Or.inl ⟨by rfl, ?y31t⟩) hS5 ?r31t
        case y31t => (intro w' hSw; have s3 := HC3.out w' (HB9.out w' hSw); have s4 := HC4.out w' (HB9.out w' hSw); go_simp; try rfl)
        try simp only [Act.put, List.setIfInBounds_toArray, List.set_cons_zero, List.set_cons_succ]
        refine held_one (i := 32) (by kernel_rfl) rfl (fun K hK => ?_)
        go_simp
        refine (HON.out _ (HB9.out _ hS5) 0).mono ?_
        rintro e Z6 ⟨rfl, hz⟩
        have hS6 := hS5.trans (hz.mono hS5.size)
        clear hz
        refine hK.out _ _ hS6 (fun _ => ?_)
        clear hK K
        try simp only [Act.put, List.setIfInBounds_toArray, List.set_cons_zero, List.set_cons_succ]
        refine' wpAnyH_take (i := 33) (oi := ⟨some 124, _, _, _, _, _⟩) (v := _) rfl (by kernel_rfl) (by kernel_rfl) (by kernel_rfl) (fun _ _ _ h => h) (Or.inl ⟨by rfl, ?y33t⟩) hS6 ?r33t
        case y33t => (intro w' hSw; have s3 := HC3.out w' (HB9.out w' hSw); have s4 := HC4.out w' (HB9.out w' hSw); go_simp; try rfl)
        try simp only [Act.put, List.setIfInBounds_toArray, List.set_cons_zero, List.set_cons_succ]
        refine' wpAnyH_take (i := 34) (oi := ⟨some 8, _, _, _, _, _⟩) (v := _) rfl (by kernel_rfl) (by kernel_rfl) (by kernel_rfl) (fun _ _ _ h => h) (Or.inl ⟨by rfl, ?y34t⟩) hS6 ?r34t
        case y34t => (intro w' hSw; have s3 := HC3.out w' (HB9.out w' hSw); have s4 := HC4.out w' (HB9.out w' hSw); go_simp; try rfl)
        try simp only [Act.put, List.setIfInBounds_toArray, List.set_cons_zero, List.set_cons_succ]
        refine wpAnyH_done (by kernel_rfl) ?_ _
        have HEND := Lib.hid (HB9.out _ hS6)
        clear HB9
        go_wp2
        go_ret
        exact ⟨rfl, HEND.out⟩
end
end Go.Proofs.Ytdbkhigocjmfoaa

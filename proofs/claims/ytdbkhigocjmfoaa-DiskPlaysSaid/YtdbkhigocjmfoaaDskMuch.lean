/-
  Steps in memory; whether steps are too many, or have too much.
-/
import Derived.Test.YtdbkhigocjmfoaaDskDo
namespace Go.Proofs.Ytdbkhigocjmfoaa
open Go.RowKit Go.Maps Go.Shelf
open DskM
set_option linter.unusedVariables false
set_option linter.unusedSimpArgs false
set_option maxRecDepth 100000

/-- A step as it came, of whatever length. -/
structure St0 (w : World) (s : St) : Prop where
  b : Sl w s.bv s.b
  k : SlN w s.kv s.kp
  n1 : -9223372036854775808 ≤ s.n
  n2 : s.n ≤ 9223372036854775807
theorem St0.below {w w' : World} {s : St} (h : St0 w s) (hb : Below w.heap.size w w') : St0 w' s := ⟨h.b.below hb, h.k.below hb, h.n1, h.n2⟩
/-- The cells of a step. -/
def StCells (w : World) (b o : Nat) (s : St) : Prop :=
  w.cell? ⟨b, o, none⟩ = some (.int .i64 s.kind) ∧ w.cell? ⟨b, o + 1, none⟩ = some (.int .i64 s.n) ∧ w.cell? ⟨b, o + 2, none⟩ = some (.string s.nm) ∧ w.cell? ⟨b, o + 3, none⟩ = some (.string s.nt) ∧ w.cell? ⟨b, o + 4, none⟩ = some s.bv ∧ w.cell? ⟨b, o + 5, none⟩ = some s.kv
theorem StCells.below {w w' : World} {b o : Nat} {s : St} (h : StCells w b o s) (hb : Below w.heap.size w w') : StCells w' b o s := by
  obtain ⟨h0, h1, h2, h3, h4, h5⟩ := h
  have c : ∀ {p : Addr} {u : Value}, w.cell? p = some u → w'.cell? p = some u := fun hu => (hb.cell (World.block_lt_of_cell? w _ hu)).trans hu
  exact ⟨c h0, c h1, c h2, c h3, c h4, c h5⟩
/-- A list of steps. -/
def Sts (w : World) (v : Value) (L : List St) : Prop :=
  ∃ A c, v = .slice A L.length c ∧ L.length ≤ c ∧ (0 < L.length → ∃ b o, A = some ⟨b, o, none⟩ ∧ ∀ j (h : j < L.length), StCells w b (o + j * 6) L[j] ∧ St0 w L[j])
theorem Sts.below {w w' : World} {v : Value} {L : List St} (h : Sts w v L) (hb : Below w.heap.size w w') : Sts w' v L := by
  obtain ⟨A, c, rfl, hc, ha⟩ := h
  refine ⟨A, c, rfl, hc, fun h0 => ?_⟩
  obtain ⟨b, o, e, hx⟩ := ha h0
  exact ⟨b, o, e, fun j hj => ⟨(hx j hj).1.below hb, (hx j hj).2.below hb⟩⟩
def mn (n : Nat) : Nat := if n < 20001 then n else 20001
def mst (s : St) : Nat := mn s.b.length + mn s.nm.size + mn s.nt.size + mn s.kp.length
def mcS (L : List St) (k : Nat) : Nat := ((L.take k).map mst).sum
theorem mcS_zero (L : List St) : mcS L 0 = 0 := by simp [mcS]
theorem mcS_succ (L : List St) (k : Nat) (h : k < L.length) : mcS L (k + 1) = mcS L k + mst L[k] := by
  unfold mcS
  rw [List.take_succ_eq_append_getElem h, List.map_append, List.sum_append]
  simp
theorem sum_mem : ∀ {l : List Nat} {x : Nat}, x ∈ l → x ≤ l.sum
  | y :: l, x, h => by
    rw [List.sum_cons]
    rcases List.mem_cons.1 h with rfl | h
    · omega
    · have := sum_mem h; omega
theorem mcS_all {L : List St} (h : mcS L L.length ≤ 20000) : ∀ s ∈ L, mst s ≤ 20000 := by
  intro s hs
  have : mst s ≤ (L.map mst).sum := sum_mem (List.mem_map.2 ⟨s, hs, rfl⟩)
  unfold mcS at h
  rw [List.take_length] at h
  omega
theorem mst_small {s : St} (h : mst s ≤ 20000) : s.b.length ≤ 20000 ∧ s.nm.size ≤ 20000 ∧ s.nt.size ≤ 20000 ∧ s.kp.length ≤ 20000 := by
  unfold mst mn at h
  split at h <;> split at h <;> split at h <;> split at h <;> omega
/-- Few steps, and small ones. -/
def Few (most : Nat) (L : List St) : Prop := L.length ≤ most ∧ ∀ s ∈ L, s.b.length ≤ 20000 ∧ s.nm.size ≤ 20000 ∧ s.nt.size ≤ 20000 ∧ s.kp.length ≤ 20000
set_option maxHeartbeats 4000000 in
theorem much_any (v : Value) (L : List St) (most : Nat) (hmo : most ≤ 1000) (w : World) (hs : Sts w v L) :
    Calls Try.prog 10 #[v, .int .i64 (most : Int)] w fun e w' => ∃ r, e = .returned (.bool r) ∧ Below w.heap.size w w' ∧ (r = false → Few most L) := by
  have hfo : Try.prog.follows .mixedOrders = true := by kernel_rfl
  obtain ⟨A, c, rfl, hc, ha⟩ := hs
  have Ha := Lib.hid ha
  have HMO := Lib.hid hmo
  clear ha
  go_enter Try.func10, Try.ntmps10
  go_wp2
  go_loopw [5, 6] (fun x z wr => ∃ k : Nat, k ≤ L.length ∧ k ≤ most + 1 ∧ z = .int .i64 (k : Int) ∧ x = .int .i64 (mcS L k : Int) ∧ mcS L k ≤ 20000 ∧ Below w.heap.size w wr) (fun _ z _ => L.length - (intOf z).toNat)
  case atStart => exact ⟨0, Nat.zero_le _, Nat.zero_le _, rfl, by rw [mcS_zero]; rfl, by rw [mcS_zero]; omega, Below.refl _ _⟩
  case round =>
    obtain ⟨k, hk, hkm, rfl, rfl, hm, hb⟩ := hrel
    by_cases hlt : k < L.length
    · by_cases hle : k ≤ most
      · obtain ⟨bb, o, rfl, hx⟩ := Ha.out (by omega)
        obtain ⟨hcs, h0⟩ := hx k hlt
        have hS0 := (hcs.below hb).2
        obtain ⟨_, hS2, hS3, hS4, hS5⟩ := hS0
        obtain ⟨A4, c4, e4⟩ : ∃ A4 c4, L[k].bv = .slice A4 L[k].b.length c4 := by obtain ⟨A4, c4, e4, _⟩ := h0.b; exact ⟨A4, c4, e4⟩
        obtain ⟨A5, c5, e5⟩ : ∃ A5 c5, L[k].kv = .slice A5 L[k].kp.length c5 := by obtain ⟨A4, c4, e4, _⟩ := h0.k; exact ⟨A4, c4, e4⟩
        rw [e4] at hS4
        rw [e5] at hS5
        have hsu := mcS_succ L k hlt
        unfold mst at hsu
        clear hx h0 hcs
        generalize L[k].b.length = lb at *
        generalize L[k].kp.length = lk at *
        generalize L[k].nm = nm at *
        generalize L[k].nt = nt at *
        generalize L[k].n = n0 at *
        have HSU := Lib.hid hsu
        have HB := Lib.hid hb
        have hkI : (k : Int) < (L.length : Int) := by omega
        have hkJ : (k : Int) ≤ (most : Int) := by omega
        have hk0 : (0 : Int) ≤ (k : Int) := by omega
        have hkM : (most : Int) ≤ 1000 := by omega
        generalize hmc : mcS L k = mk at *
        have HMC := Lib.hid hmc
        clear hsu hb e4 e5 hmc hmo
        go_wp2_with fail
        refine wp_region_held_drew (S := fun X => X.cell? ⟨bb, o + k * 6 + 2, none⟩ = some (.string nm) ∧ X.cell? ⟨bb, o + k * 6 + 3, none⟩ = some (.string nt) ∧ X.cell? ⟨bb, o + k * 6 + 4, none⟩ = some (.slice A4 lb c4) ∧ X.cell? ⟨bb, o + k * 6 + 5, none⟩ = some (.slice A5 lk c5)) hfo ⟨hS2, hS3, hS4, hS5⟩ (fun hS0 => ?_)
        have HB2 := Lib.hid (HB.out.trans ((Below.refl wr.heap.size wr).drew.mono HB.out.size))
        generalize wr.drew = W at hS0 HB2 ⊢
        refine' wpAnyH_take (i := 0) (oi := ⟨some 18, _, _, _, _, _⟩) (v := _) rfl (by kernel_rfl) (by kernel_rfl) (by kernel_rfl) (fun _ _ _ h => h) (Or.inl ⟨by rfl, ?y0⟩) hS0 ?r0
        case y0 => (intro w' hSw; obtain ⟨s2, s3, s4, s5⟩ := hSw; go_simp; try rfl)
        try simp only [Act.put, List.setIfInBounds_toArray, List.set_cons_zero, List.set_cons_succ]
        refine' wpAnyH_take (i := 1) (oi := ⟨some 19, _, _, _, _, _⟩) (v := _) rfl (by kernel_rfl) (by kernel_rfl) (by kernel_rfl) (fun _ _ _ h => h) (Or.inl ⟨by rfl, ?y1⟩) hS0 ?r1
        case y1 => (intro w' hSw; obtain ⟨s2, s3, s4, s5⟩ := hSw; go_simp; try rfl)
        try simp only [Act.put, List.setIfInBounds_toArray, List.set_cons_zero, List.set_cons_succ]
        refine' wpAnyH_take (i := 2) (oi := ⟨some 20, _, _, _, _, _⟩) (v := _) rfl (by kernel_rfl) (by kernel_rfl) (by kernel_rfl) (fun _ _ _ h => h) (Or.inl ⟨by rfl, ?y2⟩) hS0 ?r2
        case y2 => (intro w' hSw; obtain ⟨s2, s3, s4, s5⟩ := hSw; go_simp; try rfl)
        try simp only [Act.put, List.setIfInBounds_toArray, List.set_cons_zero, List.set_cons_succ]
        refine' wpAnyH_take (i := 3) (oi := ⟨some 21, _, _, _, _, _⟩) (v := _) rfl (by kernel_rfl) (by kernel_rfl) (by kernel_rfl) (fun _ _ _ h => h) (Or.inl ⟨by rfl, ?y3⟩) hS0 ?r3
        case y3 => (intro w' hSw; obtain ⟨s2, s3, s4, s5⟩ := hSw; go_simp; try rfl)
        try simp only [Act.put, List.setIfInBounds_toArray, List.set_cons_zero, List.set_cons_succ]
        refine' wpAnyH_take (i := 4) (oi := ⟨some 22, _, _, _, _, _⟩) (v := _) rfl (by kernel_rfl) (by kernel_rfl) (by kernel_rfl) (fun _ _ _ h => h) (Or.inl ⟨by rfl, ?y4⟩) hS0 ?r4
        case y4 => (intro w' hSw; obtain ⟨s2, s3, s4, s5⟩ := hSw; go_simp; try rfl)
        try simp only [Act.put, List.setIfInBounds_toArray, List.set_cons_zero, List.set_cons_succ]
        refine' wpAnyH_take (i := 5) (oi := ⟨some 23, _, _, _, _, _⟩) (v := _) rfl (by kernel_rfl) (by kernel_rfl) (by kernel_rfl) (fun _ _ _ h => h) (Or.inl ⟨by rfl, ?y5⟩) hS0 ?r5
        case y5 => (intro w' hSw; obtain ⟨s2, s3, s4, s5⟩ := hSw; go_simp; try rfl)
        try simp only [Act.put, List.setIfInBounds_toArray, List.set_cons_zero, List.set_cons_succ]
        refine' wpAnyH_take (i := 6) (oi := ⟨some 24, _, _, _, _, _⟩) (v := _) rfl (by kernel_rfl) (by kernel_rfl) (by kernel_rfl) (fun _ _ _ h => h) (Or.inl ⟨by rfl, ?y6⟩) hS0 ?r6
        case y6 => (intro w' hSw; obtain ⟨s2, s3, s4, s5⟩ := hSw; go_simp; try rfl)
        try simp only [Act.put, List.setIfInBounds_toArray, List.set_cons_zero, List.set_cons_succ]
        refine' wpAnyH_take (i := 7) (oi := ⟨some 25, _, _, _, _, _⟩) (v := _) rfl (by kernel_rfl) (by kernel_rfl) (by kernel_rfl) (fun _ _ _ h => h) (Or.inl ⟨by rfl, ?y7⟩) hS0 ?r7
        case y7 => (intro w' hSw; obtain ⟨s2, s3, s4, s5⟩ := hSw; go_simp; try rfl)
        try simp only [Act.put, List.setIfInBounds_toArray, List.set_cons_zero, List.set_cons_succ]
        refine' wpAnyH_take (i := 8) (oi := ⟨some 26, _, _, _, _, _⟩) (v := _) rfl (by kernel_rfl) (by kernel_rfl) (by kernel_rfl) (fun _ _ _ h => h) (Or.inl ⟨by rfl, ?y8⟩) hS0 ?r8
        case y8 => (intro w' hSw; obtain ⟨s2, s3, s4, s5⟩ := hSw; go_simp; try rfl)
        try simp only [Act.put, List.setIfInBounds_toArray, List.set_cons_zero, List.set_cons_succ]
        refine' wpAnyH_take (i := 9) (oi := ⟨some 27, _, _, _, _, _⟩) (v := _) rfl (by kernel_rfl) (by kernel_rfl) (by kernel_rfl) (fun _ _ _ h => h) (Or.inl ⟨by rfl, ?y9⟩) hS0 ?r9
        case y9 => (intro w' hSw; obtain ⟨s2, s3, s4, s5⟩ := hSw; go_simp; try rfl)
        try simp only [Act.put, List.setIfInBounds_toArray, List.set_cons_zero, List.set_cons_succ]
        refine' wpAnyH_take (i := 10) (oi := ⟨some 28, _, _, _, _, _⟩) (v := _) rfl (by kernel_rfl) (by kernel_rfl) (by kernel_rfl) (fun _ _ _ h => h) (Or.inl ⟨by rfl, ?y10⟩) hS0 ?r10
        case y10 => (intro w' hSw; obtain ⟨s2, s3, s4, s5⟩ := hSw; go_simp; try rfl)
        try simp only [Act.put, List.setIfInBounds_toArray, List.set_cons_zero, List.set_cons_succ]
        refine' wpAnyH_take (i := 11) (oi := ⟨some 29, _, _, _, _, _⟩) (v := _) rfl (by kernel_rfl) (by kernel_rfl) (by kernel_rfl) (fun _ _ _ h => h) (Or.inl ⟨by rfl, ?y11⟩) hS0 ?r11
        case y11 => (intro w' hSw; obtain ⟨s2, s3, s4, s5⟩ := hSw; go_simp; try rfl)
        try simp only [Act.put, List.setIfInBounds_toArray, List.set_cons_zero, List.set_cons_succ]
        refine' wpAnyH_take (i := 12) (oi := ⟨some 30, _, _, _, _, _⟩) (v := _) rfl (by kernel_rfl) (by kernel_rfl) (by kernel_rfl) (fun _ _ _ h => h) (Or.inl ⟨by rfl, ?y12⟩) hS0 ?r12
        case y12 => (intro w' hSw; obtain ⟨s2, s3, s4, s5⟩ := hSw; go_simp; try rfl)
        try simp only [Act.put, List.setIfInBounds_toArray, List.set_cons_zero, List.set_cons_succ]
        refine' wpAnyH_take (i := 13) (oi := ⟨some 31, _, _, _, _, _⟩) (v := _) rfl (by kernel_rfl) (by kernel_rfl) (by kernel_rfl) (fun _ _ _ h => h) (Or.inl ⟨by rfl, ?y13⟩) hS0 ?r13
        case y13 => (intro w' hSw; obtain ⟨s2, s3, s4, s5⟩ := hSw; go_simp; try rfl)
        try simp only [Act.put, List.setIfInBounds_toArray, List.set_cons_zero, List.set_cons_succ]
        refine' wpAnyH_take (i := 14) (oi := ⟨some 32, _, _, _, _, _⟩) (v := _) rfl (by kernel_rfl) (by kernel_rfl) (by kernel_rfl) (fun _ _ _ h => h) (Or.inl ⟨by rfl, ?y14⟩) hS0 ?r14
        case y14 => (intro w' hSw; obtain ⟨s2, s3, s4, s5⟩ := hSw; go_simp; try rfl)
        try simp only [Act.put, List.setIfInBounds_toArray, List.set_cons_zero, List.set_cons_succ]
        refine' wpAnyH_take (i := 15) (oi := ⟨some 33, _, _, _, _, _⟩) (v := _) rfl (by kernel_rfl) (by kernel_rfl) (by kernel_rfl) (fun _ _ _ h => h) (Or.inl ⟨by rfl, ?y15⟩) hS0 ?r15
        case y15 => (intro w' hSw; obtain ⟨s2, s3, s4, s5⟩ := hSw; go_simp; try rfl)
        try simp only [Act.put, List.setIfInBounds_toArray, List.set_cons_zero, List.set_cons_succ]
        refine' wpAnyH_take (i := 16) (oi := ⟨some 34, _, _, _, _, _⟩) (v := _) rfl (by kernel_rfl) (by kernel_rfl) (by kernel_rfl) (fun _ _ _ h => h) (Or.inl ⟨by rfl, ?y16⟩) hS0 ?r16
        case y16 => (intro w' hSw; obtain ⟨s2, s3, s4, s5⟩ := hSw; go_simp; try rfl)
        try simp only [Act.put, List.setIfInBounds_toArray, List.set_cons_zero, List.set_cons_succ]
        refine' wpAnyH_take (i := 17) (oi := ⟨some 35, _, _, _, _, _⟩) (v := _) rfl (by kernel_rfl) (by kernel_rfl) (by kernel_rfl) (fun _ _ _ h => h) (Or.inl ⟨by rfl, ?y17⟩) hS0 ?r17
        case y17 => (intro w' hSw; obtain ⟨s2, s3, s4, s5⟩ := hSw; go_simp; try rfl)
        try simp only [Act.put, List.setIfInBounds_toArray, List.set_cons_zero, List.set_cons_succ]
        refine' wpAnyH_take (i := 18) (oi := ⟨some 36, _, _, _, _, _⟩) (v := _) rfl (by kernel_rfl) (by kernel_rfl) (by kernel_rfl) (fun _ _ _ h => h) (Or.inl ⟨by rfl, ?y18⟩) hS0 ?r18
        case y18 => (intro w' hSw; obtain ⟨s2, s3, s4, s5⟩ := hSw; go_simp; try rfl)
        try simp only [Act.put, List.setIfInBounds_toArray, List.set_cons_zero, List.set_cons_succ]
        refine' wpAnyH_take (i := 19) (oi := ⟨some 37, _, _, _, _, _⟩) (v := _) rfl (by kernel_rfl) (by kernel_rfl) (by kernel_rfl) (fun _ _ _ h => h) (Or.inl ⟨by rfl, ?y19⟩) hS0 ?r19
        case y19 => (intro w' hSw; obtain ⟨s2, s3, s4, s5⟩ := hSw; go_simp; try rfl)
        try simp only [Act.put, List.setIfInBounds_toArray, List.set_cons_zero, List.set_cons_succ]
        refine' wpAnyH_take (i := 20) (oi := ⟨some 38, _, _, _, _, _⟩) (v := _) rfl (by kernel_rfl) (by kernel_rfl) (by kernel_rfl) (fun _ _ _ h => h) (Or.inl ⟨by rfl, ?y20⟩) hS0 ?r20
        case y20 => (intro w' hSw; obtain ⟨s2, s3, s4, s5⟩ := hSw; go_simp; try rfl)
        try simp only [Act.put, List.setIfInBounds_toArray, List.set_cons_zero, List.set_cons_succ]
        refine' wpAnyH_take (i := 21) (oi := ⟨some 39, _, _, _, _, _⟩) (v := _) rfl (by kernel_rfl) (by kernel_rfl) (by kernel_rfl) (fun _ _ _ h => h) (Or.inl ⟨by rfl, ?y21⟩) hS0 ?r21
        case y21 => (intro w' hSw; obtain ⟨s2, s3, s4, s5⟩ := hSw; go_simp; try rfl)
        try simp only [Act.put, List.setIfInBounds_toArray, List.set_cons_zero, List.set_cons_succ]
        refine' wpAnyH_take (i := 22) (oi := ⟨some 40, _, _, _, _, _⟩) (v := _) rfl (by kernel_rfl) (by kernel_rfl) (by kernel_rfl) (fun _ _ _ h => h) (Or.inl ⟨by rfl, ?y22⟩) hS0 ?r22
        case y22 => (intro w' hSw; obtain ⟨s2, s3, s4, s5⟩ := hSw; go_simp; try rfl)
        try simp only [Act.put, List.setIfInBounds_toArray, List.set_cons_zero, List.set_cons_succ]
        refine' wpAnyH_take (i := 23) (oi := ⟨some 41, _, _, _, _, _⟩) (v := _) rfl (by kernel_rfl) (by kernel_rfl) (by kernel_rfl) (fun _ _ _ h => h) (Or.inl ⟨by rfl, ?y23⟩) hS0 ?r23
        case y23 => (intro w' hSw; obtain ⟨s2, s3, s4, s5⟩ := hSw; go_simp; try rfl)
        try simp only [Act.put, List.setIfInBounds_toArray, List.set_cons_zero, List.set_cons_succ]
        refine' wpAnyH_take (i := 24) (oi := ⟨some 42, _, _, _, _, _⟩) (v := _) rfl (by kernel_rfl) (by kernel_rfl) (by kernel_rfl) (fun _ _ _ h => h) (Or.inl ⟨by rfl, ?y24⟩) hS0 ?r24
        case y24 => (intro w' hSw; obtain ⟨s2, s3, s4, s5⟩ := hSw; go_simp; try rfl)
        try simp only [Act.put, List.setIfInBounds_toArray, List.set_cons_zero, List.set_cons_succ]
        refine' wpAnyH_take (i := 25) (oi := ⟨some 43, _, _, _, _, _⟩) (v := _) rfl (by kernel_rfl) (by kernel_rfl) (by kernel_rfl) (fun _ _ _ h => h) (Or.inl ⟨by rfl, ?y25⟩) hS0 ?r25
        case y25 => (intro w' hSw; obtain ⟨s2, s3, s4, s5⟩ := hSw; go_simp; try rfl)
        try simp only [Act.put, List.setIfInBounds_toArray, List.set_cons_zero, List.set_cons_succ]
        refine' wpAnyH_take (i := 26) (oi := ⟨some 44, _, _, _, _, _⟩) (v := _) rfl (by kernel_rfl) (by kernel_rfl) (by kernel_rfl) (fun _ _ _ h => h) (Or.inl ⟨by rfl, ?y26⟩) hS0 ?r26
        case y26 => (intro w' hSw; obtain ⟨s2, s3, s4, s5⟩ := hSw; go_simp; try rfl)
        try simp only [Act.put, List.setIfInBounds_toArray, List.set_cons_zero, List.set_cons_succ]
        refine' wpAnyH_take (i := 27) (oi := ⟨some 45, _, _, _, _, _⟩) (v := _) rfl (by kernel_rfl) (by kernel_rfl) (by kernel_rfl) (fun _ _ _ h => h) (Or.inl ⟨by rfl, ?y27⟩) hS0 ?r27
        case y27 => (intro w' hSw; obtain ⟨s2, s3, s4, s5⟩ := hSw; go_simp; try rfl)
        try simp only [Act.put, List.setIfInBounds_toArray, List.set_cons_zero, List.set_cons_succ]
        refine' wpAnyH_take (i := 28) (oi := ⟨some 46, _, _, _, _, _⟩) (v := _) rfl (by kernel_rfl) (by kernel_rfl) (by kernel_rfl) (fun _ _ _ h => h) (Or.inl ⟨by rfl, ?y28⟩) hS0 ?r28
        case y28 => (intro w' hSw; obtain ⟨s2, s3, s4, s5⟩ := hSw; go_simp; try rfl)
        try simp only [Act.put, List.setIfInBounds_toArray, List.set_cons_zero, List.set_cons_succ]
        refine' wpAnyH_take (i := 29) (oi := ⟨some 47, _, _, _, _, _⟩) (v := _) rfl (by kernel_rfl) (by kernel_rfl) (by kernel_rfl) (fun _ _ _ h => h) (Or.inl ⟨by rfl, ?y29⟩) hS0 ?r29
        case y29 => (intro w' hSw; obtain ⟨s2, s3, s4, s5⟩ := hSw; go_simp; try rfl)
        try simp only [Act.put, List.setIfInBounds_toArray, List.set_cons_zero, List.set_cons_succ]
        refine' wpAnyH_take (i := 30) (oi := ⟨some 48, _, _, _, _, _⟩) (v := _) rfl (by kernel_rfl) (by kernel_rfl) (by kernel_rfl) (fun _ _ _ h => h) (Or.inl ⟨by rfl, ?y30⟩) hS0 ?r30
        case y30 => (intro w' hSw; obtain ⟨s2, s3, s4, s5⟩ := hSw; go_simp; try rfl)
        try simp only [Act.put, List.setIfInBounds_toArray, List.set_cons_zero, List.set_cons_succ]
        refine' wpAnyH_take (i := 31) (oi := ⟨some 49, _, _, _, _, _⟩) (v := _) rfl (by kernel_rfl) (by kernel_rfl) (by kernel_rfl) (fun _ _ _ h => h) (Or.inl ⟨by rfl, ?y31⟩) hS0 ?r31
        case y31 => (intro w' hSw; obtain ⟨s2, s3, s4, s5⟩ := hSw; go_simp; try rfl)
        try simp only [Act.put, List.setIfInBounds_toArray, List.set_cons_zero, List.set_cons_succ]
        refine' wpAnyH_take (i := 32) (oi := ⟨some 50, _, _, _, _, _⟩) (v := _) rfl (by kernel_rfl) (by kernel_rfl) (by kernel_rfl) (fun _ _ _ h => h) (Or.inl ⟨by rfl, ?y32⟩) hS0 ?r32
        case y32 => (intro w' hSw; obtain ⟨s2, s3, s4, s5⟩ := hSw; go_simp; try rfl)
        try simp only [Act.put, List.setIfInBounds_toArray, List.set_cons_zero, List.set_cons_succ]
        refine' wpAnyH_take (i := 33) (oi := ⟨some 5, _, _, _, _, _⟩) (v := _) rfl (by kernel_rfl) (by kernel_rfl) (by kernel_rfl) (fun _ _ _ h => h) (Or.inl ⟨by rfl, ?y33⟩) hS0 ?r33
        case y33 => (intro w' hSw; obtain ⟨s2, s3, s4, s5⟩ := hSw; go_simp; try rfl)
        try simp only [Act.put, List.setIfInBounds_toArray, List.set_cons_zero, List.set_cons_succ]
        refine wpAnyH_done (by kernel_rfl) ?_ _
        go_wp2
        · go_ret
          exact ⟨_, rfl, HB2.out, fun h => by simp at h⟩
        · rename_i hsmall
          go_roundw
          case rel =>
            have e : mcS L (k + 1) = mk + (mn lb + mn nm.size + mn nt.size + mn lk) := HSU.out
            have e2 : ((mcS L (k + 1) : Nat) : Int) = (mk : Int) + min (lb : Int) 20001 + min (nm.size : Int) 20001 + min (nt.size : Int) 20001 + min (lk : Int) 20001 := by
              rw [e]
              unfold mn
              repeat' split
              all_goals omega
            have hm' : (mk : Int) ≤ 20000 := by omega
            refine ⟨k + 1, by omega, by omega, by go_num, ?_, by omega, HB2.out⟩
            rw [e2]
            congr 1
            have w1 : IntKind.i64.wrap ((mk : Int) + min (lb : Int) 20001) = (mk : Int) + min (lb : Int) 20001 := by rw [IntKind.wrap_i64] <;> omega
            rw [w1]
            have w2 : IntKind.i64.wrap ((mk : Int) + min (lb : Int) 20001 + min (nm.size : Int) 20001) = (mk : Int) + min (lb : Int) 20001 + min (nm.size : Int) 20001 := by rw [IntKind.wrap_i64] <;> omega
            rw [w2]
            have w3 : IntKind.i64.wrap ((mk : Int) + min (lb : Int) 20001 + min (nm.size : Int) 20001 + min (nt.size : Int) 20001) = (mk : Int) + min (lb : Int) 20001 + min (nm.size : Int) 20001 + min (nt.size : Int) 20001 := by rw [IntKind.wrap_i64] <;> omega
            rw [w3]
            rw [IntKind.wrap_i64] <;> omega
          case measure => simp [intOf]; omega
      · go_wp2
        go_ret
        exact ⟨_, rfl, hb, fun h => by simp at h; omega⟩
    · obtain rfl : k = L.length := by omega
      go_wp2
      go_ret
      exact ⟨_, rfl, hb, fun h => ⟨by simp at h; omega, fun s hs => mst_small (mcS_all hm s hs)⟩⟩
end Go.Proofs.Ytdbkhigocjmfoaa

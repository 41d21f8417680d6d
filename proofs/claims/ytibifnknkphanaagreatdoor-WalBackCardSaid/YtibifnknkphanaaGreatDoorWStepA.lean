/-
  Steps of the log's laws in memory; whether steps are too many, or have too much.
-/
import Derived.Test.YtibifnknkphanaaGreatDoorDskCrM
import Derived.Test.YtibifnknkphanaaGreatDoorHeldA
import Derived.Test.YtibifnknkphanaaGreatDoorCrcSum
import Derived.Test.YtibifnknkphanaaGreatDoorRow
import Derived.Deep.Slices
namespace Go.Proofs.YtibifnknkphanaaGreatDoor
open Go.RowKit Go.Maps Go.Shelf
open DskM
set_option linter.unusedVariables false
set_option linter.unusedSimpArgs false
set_option maxRecDepth 100000
namespace WS
/-- A step, as the laws are handed it. -/
structure St where
  kind : Int
  n : Int
  nm : ByteArray
  b : List UInt8
  bv : Value
  kp : List Int
  kv : Value
def St.cs (s : St) : Array Value := #[.int .i64 s.kind, .int .i64 s.n, .string s.nm, s.bv, s.kv]
/-- A step as it came, of whatever length. -/
structure St0 (w : World) (s : St) : Prop where
  b : Sl w s.bv s.b
  k : SlN w s.kv s.kp
  n1 : -9223372036854775808 ≤ s.n
  n2 : s.n ≤ 9223372036854775807
theorem St0.below {w w' : World} {s : St} (h : St0 w s) (hb : Below w.heap.size w w') : St0 w' s := ⟨h.b.below hb, h.k.below hb, h.n1, h.n2⟩
/-- The cells of a step. -/
def StCells (w : World) (b o : Nat) (s : St) : Prop :=
  w.cell? ⟨b, o, none⟩ = some (.int .i64 s.kind) ∧ w.cell? ⟨b, o + 1, none⟩ = some (.int .i64 s.n) ∧ w.cell? ⟨b, o + 2, none⟩ = some (.string s.nm) ∧ w.cell? ⟨b, o + 3, none⟩ = some s.bv ∧ w.cell? ⟨b, o + 4, none⟩ = some s.kv
theorem StCells.below {w w' : World} {b o : Nat} {s : St} (h : StCells w b o s) (hb : Below w.heap.size w w') : StCells w' b o s := by
  obtain ⟨h0, h1, h2, h3, h4⟩ := h
  have c : ∀ {p : Addr} {u : Value}, w.cell? p = some u → w'.cell? p = some u := fun hu => (hb.cell (World.block_lt_of_cell? w _ hu)).trans hu
  exact ⟨c h0, c h1, c h2, c h3, c h4⟩
/-- A list of steps. -/
def Sts (w : World) (v : Value) (L : List St) : Prop :=
  ∃ A c, v = .slice A L.length c ∧ L.length ≤ c ∧ (0 < L.length → ∃ b o, A = some ⟨b, o, none⟩ ∧ ∀ j (h : j < L.length), StCells w b (o + j * 5) L[j] ∧ St0 w L[j])
theorem Sts.below {w w' : World} {v : Value} {L : List St} (h : Sts w v L) (hb : Below w.heap.size w w') : Sts w' v L := by
  obtain ⟨A, c, rfl, hc, ha⟩ := h
  refine ⟨A, c, rfl, hc, fun h0 => ?_⟩
  obtain ⟨b, o, e, hx⟩ := ha h0
  exact ⟨b, o, e, fun j hj => ⟨(hx j hj).1.below hb, (hx j hj).2.below hb⟩⟩
def mn (n : Nat) : Nat := if n < 20001 then n else 20001
def mst (s : St) : Nat := mn s.b.length + mn s.nm.size + mn s.kp.length
def mcS (L : List St) (k : Nat) : Nat := ((L.take k).map mst).sum
theorem mcS_zero (L : List St) : mcS L 0 = 0 := by simp [mcS]
theorem mcS_succ (L : List St) (k : Nat) (h : k < L.length) : mcS L (k + 1) = mcS L k + mst L[k] := by
  unfold mcS
  rw [List.take_succ_eq_append_getElem h, List.map_append, List.sum_append]
  simp
theorem sum_mem : ∀ {l : List Nat} {x : Nat}, x ∈ l → x ≤ l.sum
  | y :: l, x, h => by
    rw [List.sum_cons]
    rcases List.mem_cons.1 h with rfl | h
    · omega
    · have := sum_mem h; omega
theorem mcS_all {L : List St} (h : mcS L L.length ≤ 20000) : ∀ s ∈ L, mst s ≤ 20000 := by
  intro s hs
  have : mst s ≤ (L.map mst).sum := sum_mem (List.mem_map.2 ⟨s, hs, rfl⟩)
  unfold mcS at h
  rw [List.take_length] at h
  omega
theorem mst_small {s : St} (h : mst s ≤ 20000) : s.b.length ≤ 20000 ∧ s.nm.size ≤ 20000 ∧ s.kp.length ≤ 20000 := by
  unfold mst mn at h
  split at h <;> split at h <;> split at h <;> omega
theorem mst_b {s : St} (h : mst s ≤ 20000) : s.b.length ≤ mst s := by
  unfold mst mn at h ⊢
  split at h <;> split at h <;> split at h <;> simp_all <;> omega
theorem sum_b : ∀ {L : List St}, (∀ s ∈ L, mst s ≤ 20000) → (L.map (fun s => s.b.length)).sum ≤ (L.map mst).sum
  | [], _ => by simp
  | s :: L, h => by
    have h1 := mst_b (h s (List.mem_cons_self ..))
    have h2 := sum_b (L := L) (fun x hx => h x (List.mem_cons_of_mem _ hx))
    simp only [List.map_cons, List.sum_cons]
    omega
/-- Few steps, and small ones. -/
def Few (most : Nat) (L : List St) : Prop := L.length ≤ most ∧ (L.map (fun s => s.b.length)).sum ≤ 20000 ∧ ∀ s ∈ L, s.b.length ≤ 20000 ∧ s.nm.size ≤ 20000 ∧ s.kp.length ≤ 20000
set_option maxHeartbeats 4000000 in
theorem much_any (v : Value) (L : List St) (most : Nat) (hmo : most ≤ 1000) (w : World) (hs : Sts w v L) :
    Calls Tryz.prog 15 #[v, .int .i64 (most : Int)] w fun e w' => ∃ r, e = .returned (.bool r) ∧ Below w.heap.size w w' ∧ (r = false → Few most L) := by
  have hfo : Tryz.prog.follows .mixedOrders = true := by kernel_rfl
  obtain ⟨A, c, rfl, hc, ha⟩ := hs
  have Ha := Lib.hid ha
  have HMO := Lib.hid hmo
  clear ha
  go_enter Tryz.func15, Tryz.ntmps15
  go_wp2
  go_loopw [5, 6] (fun x z wr => ∃ k : Nat, k ≤ L.length ∧ k ≤ most + 1 ∧ z = .int .i64 (k : Int) ∧ x = .int .i64 (mcS L k : Int) ∧ mcS L k ≤ 20000 ∧ Below w.heap.size w wr) (fun _ z _ => L.length - (intOf z).toNat)
  case atStart => exact ⟨0, Nat.zero_le _, Nat.zero_le _, rfl, by rw [mcS_zero]; rfl, by rw [mcS_zero]; omega, Below.refl _ _⟩
  case round =>
    obtain ⟨k, hk, hkm, rfl, rfl, hm, hb⟩ := hrel
    by_cases hlt : k < L.length
    · by_cases hle : k ≤ most
      · obtain ⟨bb, o, rfl, hx⟩ := Ha.out (by omega)
        obtain ⟨hcs, h0⟩ := hx k hlt
        obtain ⟨_, _, hS2, hS4, hS5⟩ := (hcs.below hb)
        obtain ⟨A4, c4, e4⟩ : ∃ A4 c4, L[k].bv = .slice A4 L[k].b.length c4 := by obtain ⟨A4, c4, e4, _⟩ := h0.b; exact ⟨A4, c4, e4⟩
        obtain ⟨A5, c5, e5⟩ : ∃ A5 c5, L[k].kv = .slice A5 L[k].kp.length c5 := by obtain ⟨A4, c4, e4, _⟩ := h0.k; exact ⟨A4, c4, e4⟩
        rw [e4] at hS4
        rw [e5] at hS5
        have hsu := mcS_succ L k hlt
        unfold mst at hsu
        clear hx h0 hcs
        generalize L[k].b.length = lb at *
        generalize L[k].kp.length = lk at *
        generalize L[k].nm = nm at *
        generalize L[k].n = n0 at *
        have HSU := Lib.hid hsu
        have HB := Lib.hid hb
        have hkI : (k : Int) < (L.length : Int) := by omega
        have hkJ : (k : Int) ≤ (most : Int) := by omega
        have hk0 : (0 : Int) ≤ (k : Int) := by omega
        have hkM : (most : Int) ≤ 1000 := by omega
        generalize hmc : mcS L k = mk at *
        have HMC := Lib.hid hmc
        clear hsu hb e4 e5 hmc hmo
        go_wp2_with fail
        refine wp_region_held_drew (S := fun X => X.cell? ⟨bb, o + k * 5 + 2, none⟩ = some (.string nm) ∧ X.cell? ⟨bb, o + k * 5 + 3, none⟩ = some (.slice A4 lb c4) ∧ X.cell? ⟨bb, o + k * 5 + 4, none⟩ = some (.slice A5 lk c5)) hfo ⟨hS2, hS4, hS5⟩ (fun hS0 => ?_)
        have HB2 := Lib.hid (HB.out.trans ((Below.refl wr.heap.size wr).drew.mono HB.out.size))
        generalize wr.drew = W at hS0 HB2 ⊢
        refine' wpAnyH_take (i := 0) (oi := ⟨some 18, _, _, _, _, _⟩) (v := _) rfl (by kernel_rfl) (by kernel_rfl) (by kernel_rfl) (fun _ _ _ h => h) (Or.inl ⟨by rfl, ?y0⟩) hS0 ?r0
        case y0 => (intro w' hSw; obtain ⟨s2, s4, s5⟩ := hSw; go_simp; try rfl)
        try simp only [Act.put, List.setIfInBounds_toArray, List.set_cons_zero, List.set_cons_succ]
        refine' wpAnyH_take (i := 1) (oi := ⟨some 19, _, _, _, _, _⟩) (v := _) rfl (by kernel_rfl) (by kernel_rfl) (by kernel_rfl) (fun _ _ _ h => h) (Or.inl ⟨by rfl, ?y1⟩) hS0 ?r1
        case y1 => (intro w' hSw; obtain ⟨s2, s4, s5⟩ := hSw; go_simp; try rfl)
        try simp only [Act.put, List.setIfInBounds_toArray, List.set_cons_zero, List.set_cons_succ]
        refine' wpAnyH_take (i := 2) (oi := ⟨some 20, _, _, _, _, _⟩) (v := _) rfl (by kernel_rfl) (by kernel_rfl) (by kernel_rfl) (fun _ _ _ h => h) (Or.inl ⟨by rfl, ?y2⟩) hS0 ?r2
        case y2 => (intro w' hSw; obtain ⟨s2, s4, s5⟩ := hSw; go_simp; try rfl)
        try simp only [Act.put, List.setIfInBounds_toArray, List.set_cons_zero, List.set_cons_succ]
        refine' wpAnyH_take (i := 3) (oi := ⟨some 21, _, _, _, _, _⟩) (v := _) rfl (by kernel_rfl) (by kernel_rfl) (by kernel_rfl) (fun _ _ _ h => h) (Or.inl ⟨by rfl, ?y3⟩) hS0 ?r3
        case y3 => (intro w' hSw; obtain ⟨s2, s4, s5⟩ := hSw; go_simp; try rfl)
        try simp only [Act.put, List.setIfInBounds_toArray, List.set_cons_zero, List.set_cons_succ]
        refine' wpAnyH_take (i := 4) (oi := ⟨some 22, _, _, _, _, _⟩) (v := _) rfl (by kernel_rfl) (by kernel_rfl) (by kernel_rfl) (fun _ _ _ h => h) (Or.inl ⟨by rfl, ?y4⟩) hS0 ?r4
        case y4 => (intro w' hSw; obtain ⟨s2, s4, s5⟩ := hSw; go_simp; try rfl)
        try simp only [Act.put, List.setIfInBounds_toArray, List.set_cons_zero, List.set_cons_succ]
        refine' wpAnyH_take (i := 5) (oi := ⟨some 23, _, _, _, _, _⟩) (v := _) rfl (by kernel_rfl) (by kernel_rfl) (by kernel_rfl) (fun _ _ _ h => h) (Or.inl ⟨by rfl, ?y5⟩) hS0 ?r5
        case y5 => (intro w' hSw; obtain ⟨s2, s4, s5⟩ := hSw; go_simp; try rfl)
        try simp only [Act.put, List.setIfInBounds_toArray, List.set_cons_zero, List.set_cons_succ]
        refine' wpAnyH_take (i := 6) (oi := ⟨some 24, _, _, _, _, _⟩) (v := _) rfl (by kernel_rfl) (by kernel_rfl) (by kernel_rfl) (fun _ _ _ h => h) (Or.inl ⟨by rfl, ?y6⟩) hS0 ?r6
        case y6 => (intro w' hSw; obtain ⟨s2, s4, s5⟩ := hSw; go_simp; try rfl)
        try simp only [Act.put, List.setIfInBounds_toArray, List.set_cons_zero, List.set_cons_succ]
        refine' wpAnyH_take (i := 7) (oi := ⟨some 25, _, _, _, _, _⟩) (v := _) rfl (by kernel_rfl) (by kernel_rfl) (by kernel_rfl) (fun _ _ _ h => h) (Or.inl ⟨by rfl, ?y7⟩) hS0 ?r7
        case y7 => (intro w' hSw; obtain ⟨s2, s4, s5⟩ := hSw; go_simp; try rfl)
        try simp only [Act.put, List.setIfInBounds_toArray, List.set_cons_zero, List.set_cons_succ]
        refine' wpAnyH_take (i := 8) (oi := ⟨some 26, _, _, _, _, _⟩) (v := _) rfl (by kernel_rfl) (by kernel_rfl) (by kernel_rfl) (fun _ _ _ h => h) (Or.inl ⟨by rfl, ?y8⟩) hS0 ?r8
        case y8 => (intro w' hSw; obtain ⟨s2, s4, s5⟩ := hSw; go_simp; try rfl)
        try simp only [Act.put, List.setIfInBounds_toArray, List.set_cons_zero, List.set_cons_succ]
        refine' wpAnyH_take (i := 9) (oi := ⟨some 27, _, _, _, _, _⟩) (v := _) rfl (by kernel_rfl) (by kernel_rfl) (by kernel_rfl) (fun _ _ _ h => h) (Or.inl ⟨by rfl, ?y9⟩) hS0 ?r9
        case y9 => (intro w' hSw; obtain ⟨s2, s4, s5⟩ := hSw; go_simp; try rfl)
        try simp only [Act.put, List.setIfInBounds_toArray, List.set_cons_zero, List.set_cons_succ]
        refine' wpAnyH_take (i := 10) (oi := ⟨some 28, _, _, _, _, _⟩) (v := _) rfl (by kernel_rfl) (by kernel_rfl) (by kernel_rfl) (fun _ _ _ h => h) (Or.inl ⟨by rfl, ?y10⟩) hS0 ?r10
        case y10 => (intro w' hSw; obtain ⟨s2, s4, s5⟩ := hSw; go_simp; try rfl)
        try simp only [Act.put, List.setIfInBounds_toArray, List.set_cons_zero, List.set_cons_succ]
        refine' wpAnyH_take (i := 11) (oi := ⟨some 29, _, _, _, _, _⟩) (v := _) rfl (by kernel_rfl) (by kernel_rfl) (by kernel_rfl) (fun _ _ _ h => h) (Or.inl ⟨by rfl, ?y11⟩) hS0 ?r11
        case y11 => (intro w' hSw; obtain ⟨s2, s4, s5⟩ := hSw; go_simp; try rfl)
        try simp only [Act.put, List.setIfInBounds_toArray, List.set_cons_zero, List.set_cons_succ]
        refine' wpAnyH_take (i := 12) (oi := ⟨some 30, _, _, _, _, _⟩) (v := _) rfl (by kernel_rfl) (by kernel_rfl) (by kernel_rfl) (fun _ _ _ h => h) (Or.inl ⟨by rfl, ?y12⟩) hS0 ?r12
        case y12 => (intro w' hSw; obtain ⟨s2, s4, s5⟩ := hSw; go_simp; try rfl)
        try simp only [Act.put, List.setIfInBounds_toArray, List.set_cons_zero, List.set_cons_succ]
        refine' wpAnyH_take (i := 13) (oi := ⟨some 31, _, _, _, _, _⟩) (v := _) rfl (by kernel_rfl) (by kernel_rfl) (by kernel_rfl) (fun _ _ _ h => h) (Or.inl ⟨by rfl, ?y13⟩) hS0 ?r13
        case y13 => (intro w' hSw; obtain ⟨s2, s4, s5⟩ := hSw; go_simp; try rfl)
        try simp only [Act.put, List.setIfInBounds_toArray, List.set_cons_zero, List.set_cons_succ]
        refine' wpAnyH_take (i := 14) (oi := ⟨some 32, _, _, _, _, _⟩) (v := _) rfl (by kernel_rfl) (by kernel_rfl) (by kernel_rfl) (fun _ _ _ h => h) (Or.inl ⟨by rfl, ?y14⟩) hS0 ?r14
        case y14 => (intro w' hSw; obtain ⟨s2, s4, s5⟩ := hSw; go_simp; try rfl)
        try simp only [Act.put, List.setIfInBounds_toArray, List.set_cons_zero, List.set_cons_succ]
        refine' wpAnyH_take (i := 15) (oi := ⟨some 33, _, _, _, _, _⟩) (v := _) rfl (by kernel_rfl) (by kernel_rfl) (by kernel_rfl) (fun _ _ _ h => h) (Or.inl ⟨by rfl, ?y15⟩) hS0 ?r15
        case y15 => (intro w' hSw; obtain ⟨s2, s4, s5⟩ := hSw; go_simp; try rfl)
        try simp only [Act.put, List.setIfInBounds_toArray, List.set_cons_zero, List.set_cons_succ]
        refine' wpAnyH_take (i := 16) (oi := ⟨some 34, _, _, _, _, _⟩) (v := _) rfl (by kernel_rfl) (by kernel_rfl) (by kernel_rfl) (fun _ _ _ h => h) (Or.inl ⟨by rfl, ?y16⟩) hS0 ?r16
        case y16 => (intro w' hSw; obtain ⟨s2, s4, s5⟩ := hSw; go_simp; try rfl)
        try simp only [Act.put, List.setIfInBounds_toArray, List.set_cons_zero, List.set_cons_succ]
        refine' wpAnyH_take (i := 17) (oi := ⟨some 35, _, _, _, _, _⟩) (v := _) rfl (by kernel_rfl) (by kernel_rfl) (by kernel_rfl) (fun _ _ _ h => h) (Or.inl ⟨by rfl, ?y17⟩) hS0 ?r17
        case y17 => (intro w' hSw; obtain ⟨s2, s4, s5⟩ := hSw; go_simp; try rfl)
        try simp only [Act.put, List.setIfInBounds_toArray, List.set_cons_zero, List.set_cons_succ]
        refine' wpAnyH_take (i := 18) (oi := ⟨some 36, _, _, _, _, _⟩) (v := _) rfl (by kernel_rfl) (by kernel_rfl) (by kernel_rfl) (fun _ _ _ h => h) (Or.inl ⟨by rfl, ?y18⟩) hS0 ?r18
        case y18 => (intro w' hSw; obtain ⟨s2, s4, s5⟩ := hSw; go_simp; try rfl)
        try simp only [Act.put, List.setIfInBounds_toArray, List.set_cons_zero, List.set_cons_succ]
        refine' wpAnyH_take (i := 19) (oi := ⟨some 37, _, _, _, _, _⟩) (v := _) rfl (by kernel_rfl) (by kernel_rfl) (by kernel_rfl) (fun _ _ _ h => h) (Or.inl ⟨by rfl, ?y19⟩) hS0 ?r19
        case y19 => (intro w' hSw; obtain ⟨s2, s4, s5⟩ := hSw; go_simp; try rfl)
        try simp only [Act.put, List.setIfInBounds_toArray, List.set_cons_zero, List.set_cons_succ]
        refine' wpAnyH_take (i := 20) (oi := ⟨some 38, _, _, _, _, _⟩) (v := _) rfl (by kernel_rfl) (by kernel_rfl) (by kernel_rfl) (fun _ _ _ h => h) (Or.inl ⟨by rfl, ?y20⟩) hS0 ?r20
        case y20 => (intro w' hSw; obtain ⟨s2, s4, s5⟩ := hSw; go_simp; try rfl)
        try simp only [Act.put, List.setIfInBounds_toArray, List.set_cons_zero, List.set_cons_succ]
        refine' wpAnyH_take (i := 21) (oi := ⟨some 39, _, _, _, _, _⟩) (v := _) rfl (by kernel_rfl) (by kernel_rfl) (by kernel_rfl) (fun _ _ _ h => h) (Or.inl ⟨by rfl, ?y21⟩) hS0 ?r21
        case y21 => (intro w' hSw; obtain ⟨s2, s4, s5⟩ := hSw; go_simp; try rfl)
        try simp only [Act.put, List.setIfInBounds_toArray, List.set_cons_zero, List.set_cons_succ]
        refine' wpAnyH_take (i := 22) (oi := ⟨some 40, _, _, _, _, _⟩) (v := _) rfl (by kernel_rfl) (by kernel_rfl) (by kernel_rfl) (fun _ _ _ h => h) (Or.inl ⟨by rfl, ?y22⟩) hS0 ?r22
        case y22 => (intro w' hSw; obtain ⟨s2, s4, s5⟩ := hSw; go_simp; try rfl)
        try simp only [Act.put, List.setIfInBounds_toArray, List.set_cons_zero, List.set_cons_succ]
        refine' wpAnyH_take (i := 23) (oi := ⟨some 41, _, _, _, _, _⟩) (v := _) rfl (by kernel_rfl) (by kernel_rfl) (by kernel_rfl) (fun _ _ _ h => h) (Or.inl ⟨by rfl, ?y23⟩) hS0 ?r23
        case y23 => (intro w' hSw; obtain ⟨s2, s4, s5⟩ := hSw; go_simp; try rfl)
        try simp only [Act.put, List.setIfInBounds_toArray, List.set_cons_zero, List.set_cons_succ]
        refine' wpAnyH_take (i := 24) (oi := ⟨some 42, _, _, _, _, _⟩) (v := _) rfl (by kernel_rfl) (by kernel_rfl) (by kernel_rfl) (fun _ _ _ h => h) (Or.inl ⟨by rfl, ?y24⟩) hS0 ?r24
        case y24 => (intro w' hSw; obtain ⟨s2, s4, s5⟩ := hSw; go_simp; try rfl)
        try simp only [Act.put, List.setIfInBounds_toArray, List.set_cons_zero, List.set_cons_succ]
        refine' wpAnyH_take (i := 25) (oi := ⟨some 5, _, _, _, _, _⟩) (v := _) rfl (by kernel_rfl) (by kernel_rfl) (by kernel_rfl) (fun _ _ _ h => h) (Or.inl ⟨by rfl, ?y25⟩) hS0 ?r25
        case y25 => (intro w' hSw; obtain ⟨s2, s4, s5⟩ := hSw; go_simp; try rfl)
        try simp only [Act.put, List.setIfInBounds_toArray, List.set_cons_zero, List.set_cons_succ]
        refine wpAnyH_done (by kernel_rfl) ?_ _
        go_wp2
        · go_ret
          exact ⟨_, rfl, HB2.out, fun h => by simp at h⟩
        · rename_i hsmall
          go_roundw
          case rel =>
            have e : mcS L (k + 1) = mk + (mn lb + mn nm.size + mn lk) := HSU.out
            have e2 : ((mcS L (k + 1) : Nat) : Int) = (mk : Int) + min (lb : Int) 20001 + min (nm.size : Int) 20001 + min (lk : Int) 20001 := by
              rw [e]
              unfold mn
              repeat' split
              all_goals omega
            have hm' : (mk : Int) ≤ 20000 := by omega
            refine ⟨k + 1, by omega, by omega, by go_num, ?_, by omega, HB2.out⟩
            rw [e2]
            congr 1
            have w1 : IntKind.i64.wrap ((mk : Int) + min (lb : Int) 20001) = (mk : Int) + min (lb : Int) 20001 := by rw [IntKind.wrap_i64] <;> omega
            rw [w1]
            have w2 : IntKind.i64.wrap ((mk : Int) + min (lb : Int) 20001 + min (nm.size : Int) 20001) = (mk : Int) + min (lb : Int) 20001 + min (nm.size : Int) 20001 := by rw [IntKind.wrap_i64] <;> omega
            rw [w2]
            rw [IntKind.wrap_i64] <;> omega
          case measure => simp [intOf]; omega
      · go_wp2
        go_ret
        exact ⟨_, rfl, hb, fun h => by simp at h; omega⟩
    · obtain rfl : k = L.length := by omega
      go_wp2
      go_ret
      exact ⟨_, rfl, hb, fun h => ⟨by simp at h; omega, by
        have h1 := sum_b (mcS_all hm)
        unfold mcS at hm
        rw [List.take_length] at hm
        omega, fun s hs => mst_small (mcS_all hm s hs)⟩⟩
end WS
end Go.Proofs.YtibifnknkphanaaGreatDoor

/-
  The walk of the document's Much, at 20000.
-/
namespace Go.Proofs.YtibifnknkphanaaGreatDoor
open Go.RowKit
set_option linter.unusedVariables false
namespace M20

/-- How much Much has counted of the first k lists. -/
def mc (ls : List (List UInt8)) (k : Nat) : Nat := ls.length + ((ls.take k).map (fun x => min x.length 20001)).sum
theorem mc_zero (ls : List (List UInt8)) : mc ls 0 = ls.length := by simp [mc]
theorem mc_succ (ls : List (List UInt8)) (k : Nat) (h : k < ls.length) : mc ls (k + 1) = mc ls k + min ls[k].length 20001 := by
  unfold mc
  rw [List.take_succ_eq_append_getElem h, List.map_append, List.sum_append]; simp; omega
theorem sum_le : ∀ (ls : List (List UInt8)), (ls.map (fun x => min x.length 20001)).sum ≤ ls.flatten.length
  | [] => by simp
  | l :: ls => by
    have := sum_le ls
    simp only [List.map_cons, List.sum_cons, List.flatten_cons, List.length_append]; omega
theorem sum_eq : ∀ (ls : List (List UInt8)), (ls.map (fun x => min x.length 20001)).sum ≤ 20000 → (ls.map (fun x => min x.length 20001)).sum = ls.flatten.length
  | [], _ => by simp
  | l :: ls, h => by
    simp only [List.map_cons, List.sum_cons] at h
    have := sum_eq ls (by omega)
    simp only [List.map_cons, List.sum_cons, List.flatten_cons, List.length_append]; omega
theorem flatten_take (ls : List (List UInt8)) (k : Nat) : (ls.take k).flatten.length ≤ ls.flatten.length := by
  have h2 : ls.flatten = (ls.take k).flatten ++ (ls.drop k).flatten := by rw [← List.flatten_append, List.take_append_drop]
  rw [h2, List.length_append]; omega
/-- Counted far enough. -/
theorem mc_much (ls : List (List UInt8)) (k : Nat) (h : 20000 < mc ls k) : 20000 < ls.length + ls.flatten.length := by
  have h1 := sum_le (ls.take k)
  have h2 := flatten_take ls k
  unfold mc at h; omega
theorem mc_few (ls : List (List UInt8)) (h : mc ls ls.length ≤ 20000) : ls.length + ls.flatten.length ≤ 20000 := by
  unfold mc at h
  rw [List.take_length] at h
  have := sum_eq ls (by omega)
  omega

set_option maxHeartbeats 400000 in
theorem much_any (v : Value) (ls : List (List UInt8)) (w : World) (b : Bool) (hs : Sls w v ls) (hn : ls.length ≤ 9223372036854775807) (hb : b = decide (20000 < ls.length + ls.flatten.length)) :
    Calls Tryz.prog 42 #[v, .int .i64 20000] w fun e w' => e = .returned (.bool b) ∧ w = w' := by
  have Hb := Lib.hid hb
  clear hb
  obtain ⟨A, c, rfl, hc, ha⟩ := hs
  have Ha := Lib.hid ha
  clear ha
  go_enter Tryz.func42, Tryz.ntmps42
  go_wp2
  go_loop [5, 6] (fun x z => ∃ k : Nat, k ≤ ls.length ∧ z = .int .i64 (k : Int) ∧ x = .int .i64 (mc ls k : Int) ∧ (mc ls k ≤ 40001 ∨ k = 0)) (fun _ z => ls.length - (intOf z).toNat)
  case atStart => exact ⟨0, Nat.zero_le _, rfl, by rw [mc_zero], .inr rfl⟩
  case round =>
    obtain ⟨k, hk, rfl, rfl, hm⟩ := hrel
    by_cases hlt : k < ls.length
    · by_cases hmc : mc ls k ≤ 20000
      · obtain ⟨bb, o, rfl, hx⟩ := Ha.out (by omega)
        obtain ⟨u, hu, hsu⟩ := hx k hlt
        obtain ⟨A2, c2, rfl, _, _⟩ := hsu
        have hs := Lib.hid (mc_succ ls k hlt)
        have hmi : (mc ls k : Int) ≤ 20000 := by omega
        clear hx hm
        go_wp2
        go_round
        case rel =>
          refine ⟨k + 1, by omega, by go_num, ?_, ?_⟩
          · rw [hs.out]
            congr 1
            first | omega | (split <;> omega)
          · left
            rw [hs.out]; omega
        case measure => simp [intOf]; omega
      · have hmi : ¬ (mc ls k : Int) ≤ 20000 := by omega
        have Hm := Lib.hid (mc_much ls k (by omega))
        go_wp2
        go_ret
        exact ⟨ret_bool (by rw [Hb.out]; exact (decide_eq_true Hm.out).symm), rfl⟩
    · obtain rfl : k = ls.length := by omega
      have He := Lib.hid (show decide ((20000 : Int) < (mc ls ls.length : Int)) = b by
        rw [Hb.out]
        by_cases h : mc ls ls.length ≤ 20000
        · have := mc_few ls h
          rw [decide_eq_false (by omega), decide_eq_false (by omega)]
        · have := mc_much ls ls.length (by omega)
          rw [decide_eq_true (by omega), decide_eq_true (by omega)])
      go_wp2
      go_ret
      exact ⟨ret_bool He.out, rfl⟩
end M20
end Go.Proofs.YtibifnknkphanaaGreatDoor

/-
  Steps of the log's laws, numbers, lists of bytes that a law is handed, opened.
-/
namespace Go.Proofs.YtibifnknkphanaaGreatDoor
open Go.ChangeShapes Go.WideShapes Go.ChangeAt Go.RowKit Go.Deep
set_option linter.unusedVariables false
set_option linter.unusedSimpArgs false
set_option maxRecDepth 20000

namespace WS
instance : Inhabited St := ⟨⟨0, 0, ⟨#[]⟩, [], .nilFunc, [], .nilFunc⟩⟩
theorem cells_sl : Tryz.prog.cellsOf 22 = 1 := by kernel_rfl
theorem cells_step : Tryz.prog.cellsOf 45 = 5 := by kernel_rfl
section
variable {H : Type} {enc : TypeId × Value → H}
theorem open_nums_cells {W : World} {v : Value} {fuel : Nat} {x : DataW H × List MemPlace} (hf : DataW.trod enc Tryz.prog W 0 (fun _ => true) true fuel 35 [v] = some x) : ∃ O : List Int, SlN W v O := by
  rcases open_ints Tryz.underlying35 Tryz.underlying3 (by kernel_rfl) hf with ⟨hcs, hx⟩ | ⟨a, len, cap, zs, hcs, _, hl, hm, hz, hx, hcell, hwz⟩
  · injection hcs with hcs _
    subst hcs
    exact ⟨[], SlN.nil _ _ _ (by omega)⟩
  · injection hcs with hcs _
    subst hcs
    simp only [if_true] at hz
    have hlz : (zs.take len).length = len := by simp; omega
    refine ⟨zs.take len, some a, cap, by rw [hlz], by rw [hlz]; exact hl, by unfold maxLen at hm; omega, fun hn => ?_⟩
    rw [hlz] at hn
    obtain ⟨b, off, spot⟩ := a
    have hspot : spot = none := by simpa [Addr.add] using World.cell?_spot (hcell 0 (by omega))
    subst hspot
    refine ⟨b, off, rfl, fun j hj => ?_⟩
    rw [hlz] at hj
    have hc := hcell j (by omega)
    rw [add_plain] at hc
    rw [hc]
    have e1 : zs.getD j 0 = zs[j]'(by omega) := by simp [List.getD, List.getElem?_eq_getElem (show j < zs.length by omega)]
    rw [e1]
    simp only [List.getElem_take]
theorem open_keep {W : World} {base : Nat} {v : Value} {d : DataW H} {ps : List MemPlace} (hv : Value.okWide Tryz.prog W .any base 35 v) (h : DataW.Trod enc Tryz.prog W 0 (fun _ => true) true 35 v d ps) :
    ∃ O : List Int, SlN W v O := by
  obtain ⟨a0, len, cap, rfl⟩ := okWide_slice Tryz.underlying35 hv
  obtain ⟨fuel, hf⟩ := h
  exact open_nums_cells hf
/-- A list of lists of bytes. -/
theorem open_rows {W : World} {base : Nat} {v : Value} {d : DataW H} {ps : List MemPlace} (hv : Value.okWide Tryz.prog W .any base 27 v) (h : DataW.Trod enc Tryz.prog W 0 (fun _ => true) true 27 v d ps) :
    ∃ ls : List (List UInt8), Sls W v ls ∧ ls.length ≤ 9223372036854775807 := by
  obtain ⟨a0, len, cap, rfl⟩ := okWide_slice Tryz.underlying27 hv
  obtain ⟨fuel, hf⟩ := h
  rcases open_slice1 Tryz.underlying27 cells_sl hf with ⟨hcs, hx⟩ | ⟨a, len', cap', m, n, V, D, Pl, hcs, _, hl, hm, hmm, hx, hall⟩
  · simp [Value.cells] at hcs
    obtain ⟨rfl, rfl, rfl⟩ := hcs
    exact ⟨[], ⟨none, 0, rfl, Nat.le_refl _, fun h => absurd h (by simp)⟩, by simp⟩
  · simp [Value.cells] at hcs
    obtain ⟨rfl, rfl, rfl⟩ := hcs
    simp only [if_true] at hmm
    subst hmm
    have each : ∀ i, i < m → ∃ l : List UInt8, Sl W (V i) l := fun i hi => open_bytes_cells (hall i hi).2
    obtain ⟨L, hL⟩ := choose_lt (α := List UInt8) (p := fun i l => Sl W (V i) l) each
    have hll : ((List.range len).map L).length = len := by simp
    refine ⟨(List.range len).map L, ⟨some a, m, by rw [hll], by rw [hll]; exact hl, fun hn => ?_⟩, by rw [hll]; unfold maxLen at hm; omega⟩
    rw [hll] at hn
    obtain ⟨b, off, spot⟩ := a
    have hspot : spot = none := by simpa [Addr.add] using World.cell?_spot (hall 0 (by omega)).1
    subst hspot
    refine ⟨b, off, rfl, fun j hj => ?_⟩
    rw [hll] at hj
    have hc := (hall j (by omega)).1
    rw [add_plain] at hc
    exact ⟨V j, hc, by simpa using hL j (by omega)⟩

/-- One step's cells. -/
theorem open_step {W : World} {a : Addr} {i fuel : Nat} {cs : List Value} {x : DataW H × List MemPlace} (hcs : W.cells? 0 (a.add (i * Tryz.prog.cellsOf 45)) (Tryz.prog.cellsOf 45) = some cs)
    (hf : DataW.trod enc Tryz.prog W 0 (fun _ => true) true fuel 45 cs = some x) :
    ∃ s : St, (∀ j v, s.cs.toList[j]? = some v → W.cell? (a.add (i * 5 + j)) = some v) ∧ St0 W s := by
  rw [cells_step] at hcs
  obtain ⟨_, hlen, hcell⟩ := World.cells?_some hcs
  obtain ⟨xs, k, hk, hxy, _, hxl, hg⟩ := DataW.trod_struct Tryz.underlying45 hf
  match xs, hxl, cs, hlen with
  | [y0, y1, y2, y4, y5], _, [v0, v1, v2, v4, v5], _ =>
    have g0 := hg 0 _ rfl
    have g1 := hg 1 _ rfl
    have g2 := hg 2 _ rfl
    have g4 := hg 3 _ rfl
    have g5 := hg 4 _ rfl
    have c0 : Tryz.prog.cellsOf 3 = 1 := by kernel_rfl
    have c1 : Tryz.prog.cellsOf 9 = 1 := by kernel_rfl
    have c2 : Tryz.prog.cellsOf 22 = 1 := by kernel_rfl
    have c3 : Tryz.prog.cellsOf 35 = 1 := by kernel_rfl
    simp only [c0, c1, c2, c3, List.drop_zero, List.drop_succ_cons, List.take_succ_cons, List.take_zero, List.getElem?_cons_zero, List.getElem?_cons_succ] at g0 g1 g2 g4 g5
    obtain ⟨n0, e0, _, w0⟩ := DataW.trod_int Tryz.underlying3 g0
    obtain ⟨n1, e1, _, w1⟩ := DataW.trod_int Tryz.underlying3 g1
    obtain ⟨s2, e2, _, _⟩ := DataW.trod_string Tryz.underlying9 g2
    obtain ⟨l4, h4⟩ := open_bytes_cells g4
    obtain ⟨l5, h5⟩ := open_nums_cells g5
    injection e0 with e0 _
    injection e1 with e1 _
    injection e2 with e2 _
    subst e0 e1 e2
    have hb := bounds_i64 w1
    refine ⟨⟨n0, n1, s2, l4, v4, l5, v5⟩, fun j v hv => ?_, h4, h5, hb.1, hb.2⟩
    have hj : j < 5 := by
      have := (List.getElem?_eq_some_iff.1 hv).1
      simpa [St.cs] using this
    have e := hcell j hj
    rw [add_add] at e
    rw [e]
    exact hv
theorem open_steps {W : World} {base : Nat} {v : Value} {d : DataW H} {ps : List MemPlace} (hv : Value.okWide Tryz.prog W .any base 34 v) (h : DataW.Trod enc Tryz.prog W 0 (fun _ => true) true 34 v d ps) :
    ∃ L : List St, Sts W v L := by
  obtain ⟨a0, len, cap, rfl⟩ := okWide_slice Tryz.underlying34 hv
  obtain ⟨fuel, hf⟩ := h
  rcases open_slice Tryz.underlying34 hf with ⟨hcs, hx⟩ | ⟨a, len', cap', m, n, D, Pl, hcs, _, hl, hm, hmm, hx, hall⟩
  · simp [Value.cells] at hcs
    obtain ⟨rfl, rfl, rfl⟩ := hcs
    exact ⟨[], none, 0, rfl, Nat.le_refl _, fun h => absurd h (by simp)⟩
  · simp [Value.cells] at hcs
    obtain ⟨rfl, rfl, rfl⟩ := hcs
    simp only [if_true] at hmm
    subst hmm
    have each : ∀ i, i < m → ∃ s : St, (∀ j v, s.cs.toList[j]? = some v → W.cell? (a.add (i * 5 + j)) = some v) ∧ St0 W s := by
      intro i hi
      obtain ⟨cs, h1, h2⟩ := hall i hi
      exact open_step h1 h2
    obtain ⟨q, hq⟩ := choose_lt each
    have hll : ((List.range len).map q).length = len := by simp
    refine ⟨(List.range len).map q, some a, m, by rw [hll], by rw [hll]; exact hl, fun hn => ?_⟩
    rw [hll] at hn
    obtain ⟨b, off, spot⟩ := a
    have hspot : spot = none := by simpa [Addr.add] using World.cell?_spot ((hq 0 (by omega)).1 0 _ rfl)
    subst hspot
    refine ⟨b, off, rfl, fun j hj => ?_⟩
    rw [hll] at hj
    obtain ⟨hc, h0⟩ := hq j (by omega)
    have e : ((List.range len).map q)[j] = q j := by simp
    rw [e]
    refine ⟨⟨?_, ?_, ?_, ?_, ?_⟩, h0⟩
    · have := hc 0 _ rfl; rw [add_plain] at this; exact this
    · have := hc 1 _ rfl; rw [add_plain, ← Nat.add_assoc] at this; exact this
    · have := hc 2 _ rfl; rw [add_plain, ← Nat.add_assoc] at this; exact this
    · have := hc 3 _ rfl; rw [add_plain, ← Nat.add_assoc] at this; exact this
    · have := hc 4 _ rfl; rw [add_plain, ← Nat.add_assoc] at this; exact this
end
end WS
end Go.Proofs.YtibifnknkphanaaGreatDoor

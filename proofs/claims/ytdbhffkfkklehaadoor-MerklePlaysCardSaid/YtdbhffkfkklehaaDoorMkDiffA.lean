/-
  The walk of what Diff calls: a closure that calls itself.
-/
import Derived.Test.YtdbhffkfkklehaaDoorMkOfA
import Derived.Laws.EntriesVeiled
namespace Go.Proofs.YtdbhffkfkklehaaDoor
open Go.RowKit
set_option linter.unusedVariables false
set_option linter.unusedSimpArgs false
set_option maxRecDepth 100000

/-- Which buckets a walk tells, and how many pairs it compares. -/
def wk (H J : Nat → List UInt8) : Nat → Nat → List Nat × Nat
  | 0, _ => ([], 1)
  | k + 1, n => if H n = J n then ([], 1) else if 64 ≤ n then ([n - 64], 1) else ((wk H J k (2 * n)).1 ++ (wk H J k (2 * n + 1)).1, 1 + (wk H J k (2 * n)).2 + (wk H J k (2 * n + 1)).2)
theorem wk_le (H J : Nat → List UInt8) : ∀ k n, (wk H J k n).2 < 2 ^ (k + 1) ∧ (wk H J k n).1.length ≤ (wk H J k n).2
  | 0, n => by simp [wk]
  | k + 1, n => by
    have h1 := wk_le H J k (2 * n)
    have h2 := wk_le H J k (2 * n + 1)
    have hp : 2 ^ (k + 1 + 1) = 2 * 2 ^ (k + 1) := by rw [Nat.pow_succ]; omega
    have hpos : 0 < 2 ^ k := Nat.two_pow_pos k
    have hp2 : 2 ^ (k + 1) = 2 * 2 ^ k := by rw [Nat.pow_succ]; omega
    unfold wk
    split
    · dsimp only [List.length_nil]; omega
    · split
      · dsimp only [List.length_cons, List.length_nil]; omega
      · rw [List.length_append]
        dsimp only
        omega
def fvB (B : Nat) : Value := .func (.func 36) #[] #[.pointer (some ⟨B, 0, none⟩), .pointer (some ⟨B + 1, 0, none⟩), .pointer (some ⟨B + 1 + 1, 0, none⟩), .pointer (some ⟨B + 1 + 1 + 1, 0, none⟩)]
def iw (n : Nat) : Value := .int .i64 (n : Int)
/-- A row of numbers of the call's own. -/
def OwnI (w : World) (base : Nat) (v : Value) (X : List Nat) : Prop := w.ownsRow base 3 1 v X.length (X.map iw)
theorem OwnI.lt {w : World} {base : Nat} {v : Value} {X : List Nat} (h : OwnI w base v X) : ∀ k, v.ownBlock = some k → base ≤ k ∧ k < w.heap.size := World.ownsRow.lt h
theorem OwnI.keep {w w' : World} {base : Nat} {v : Value} {X : List Nat} (h : OwnI w base v X) (hk : ∀ k, v.ownBlock = some k → w'.heap[k]? = w.heap[k]?) : OwnI w' base v X := by
  refine ⟨h.1, ?_⟩
  rcases h.2 with h2 | ⟨g, cap, cur, rfl, hg, hh, r⟩
  · exact Or.inl h2
  · exact Or.inr ⟨g, cap, cur, rfl, hg, (hk g rfl).trans hh, r⟩
/-- The walk's memory: four cells, and the buckets that were told. -/
structure Wk (B : Nat) (w0 : World) (gt go' : Nat) (X : List Nat) (w : World) : Prop where
  below : Below B w0 w
  c1 : Blk w B 25 #[.pointer (some ⟨gt, 0, none⟩)]
  c2 : Blk w (B + 1) 25 #[.pointer (some ⟨go', 0, none⟩)]
  c3 : ∃ v, Blk w (B + 1 + 1) 53 #[v] ∧ OwnI w (B + 1 + 1 + 1 + 1) v X
  c4 : Blk w (B + 1 + 1 + 1) 69 #[fvB B]
theorem Wk.drew {B : Nat} {w0 : World} {gt go' : Nat} {X : List Nat} {w : World} (h : Wk B w0 gt go' X w) : Wk B w0 gt go' X w.drew := ⟨h.below.drew, h.c1.drew, h.c2.drew, h.c3, h.c4.drew⟩
theorem Wk.f4 {B : Nat} {w0 : World} {gt go' : Nat} {X : List Nat} {w : World} (h : Wk B w0 gt go' X w) : w.cell? ⟨B + 1 + 1 + 1, 0, none⟩ = some (fvB B) := by rw [h.c4.cell]; rfl
theorem Wk.f1 {B : Nat} {w0 : World} {gt go' : Nat} {X : List Nat} {w : World} (h : Wk B w0 gt go' X w) : w.cell? ⟨B, 0, none⟩ = some (.pointer (some ⟨gt, 0, none⟩)) := by rw [h.c1.cell]; rfl
theorem Wk.f2 {B : Nat} {w0 : World} {gt go' : Nat} {X : List Nat} {w : World} (h : Wk B w0 gt go' X w) : w.cell? ⟨B + 1, 0, none⟩ = some (.pointer (some ⟨go', 0, none⟩)) := by rw [h.c2.cell]; rfl
theorem info_int : (Tryd.prog.info? 3).map (fun i => (i.zero, i.size, i.bytes)) = some (some (.int .i64 0), 1, 8) := by kernel_rfl

set_option maxHeartbeats 8000000 in
theorem walk_any {B : Nat} {w0 : World} {gt go' : Nat} {H J : Nat → List UInt8} (hH : Tr w0 gt H) (hJ : Tr w0 go' J) (hgt : gt < B) (hgo : go' < B) : ∀ k : Nat, k ≤ 7 → ∀ (n : Nat) (X : List Nat) (w : World), Wk B w0 gt go' X w → 1 ≤ n → n < 128 → 128 ≤ n * 2 ^ k → X.length + 2 ^ (k + 1) ≤ 1000000 →
    Calls Tryd.prog 36 #[.int .i64 (n : Int), .pointer (some ⟨B, 0, none⟩), .pointer (some ⟨B + 1, 0, none⟩), .pointer (some ⟨B + 1 + 1, 0, none⟩), .pointer (some ⟨B + 1 + 1 + 1, 0, none⟩)] w fun e w' => e = .returned (.int .i64 ((wk H J k n).2 : Int)) ∧ Wk B w0 gt go' (X ++ (wk H J k n).1) w'
  | 0, _, n, X, w, _, h1, h128, hp, _ => absurd hp (by simp; omega)
  | k + 1, hk7, n, X, w, hw, h1, h128, hp, hx => by
    have hfo : Tryd.prog.follows .mixedOrders = true := by kernel_rfl
    have ih := walk_any hH hJ hgt hgo k (by omega)
    have HW := Lib.hid hw
    have K1 := Lib.hid hw.drew.f1
    have K2 := Lib.hid hw.drew.f2
    have HT := hH.below hw.drew.below hgt
    have HTJ := hJ.below hw.drew.below hgo
    have h32a := HT.len n h128
    have h32b := HTJ.len n h128
    have HR1 := Lib.hid (HT.range n h128)
    have HR2 := Lib.hid (HTJ.range n h128)
    have HI1 := Lib.hid (hc_facts h32a).1
    have HI2 := Lib.hid (hc_facts h32b).1
    have HEQ := Lib.hid (hash_eq (H n) (J n) h32a h32b)
    rw [← hcells_arr, ← hcells_arr] at HEQ
    have BN := Lib.hid (show (n : Int) < 128 by omega)
    have HX := Lib.hid hx
    have HP := Lib.hid hp
    clear hp hx
    obtain ⟨q, hq⟩ : ∃ q : Bool, decide (H n = J n) = q := ⟨_, rfl⟩
    rw [hq] at HEQ
    have Hq := Lib.hid hq
    generalize hcells (H n) = C1 at HR1 HI1 HEQ
    generalize hcells (J n) = C2 at HR2 HI2 HEQ
    have HWd := Lib.hid hw.drew
    clear hq HT HTJ h32a h32b hw
    go_enter Tryd.func36, Tryd.ntmps36
    cases q
    · go_wp2_with fail
      refine wp_region_held_drew (S := fun X => X = w.drew) hfo rfl (fun hS0 => ?_)
      generalize w.drew = Z0 at *
      refine' wpAnyH_take (i := 0) (oi := ⟨some 8, _, _, _, _, _⟩) (v := _) rfl (by kernel_rfl) (by kernel_rfl) (by kernel_rfl) (fun _ _ _ h => h) (Or.inl ⟨by rfl, ?y0⟩) hS0 ?r0
      case y0 => (intro w' hSw; subst hSw; have k1 := K1.out; have k2 := K2.out; have e3 := HEQ.out; go_simp; try rfl)
      try simp only [Act.put, List.setIfInBounds_toArray, List.set_cons_zero, List.set_cons_succ]
      refine' wpAnyH_take (i := 1) (oi := ⟨some 9, _, _, _, _, _⟩) (v := _) rfl (by kernel_rfl) (by kernel_rfl) (by kernel_rfl) (fun _ _ _ h => h) (Or.inl ⟨by rfl, ?y1⟩) hS0 ?r1
      case y1 => (intro w' hSw; subst hSw; have k1 := K1.out; have k2 := K2.out; have e3 := HEQ.out; go_simp; try rfl)
      try simp only [Act.put, List.setIfInBounds_toArray, List.set_cons_zero, List.set_cons_succ]
      refine' wpAnyH_take (i := 2) (oi := ⟨some 10, _, _, _, _, _⟩) (v := _) rfl (by kernel_rfl) (by kernel_rfl) (by kernel_rfl) (fun _ _ _ h => h) (Or.inl ⟨by rfl, ?y2⟩) hS0 ?r2
      case y2 => (intro w' hSw; subst hSw; have k1 := K1.out; have k2 := K2.out; have e3 := HEQ.out; go_simp; try rfl)
      try simp only [Act.put, List.setIfInBounds_toArray, List.set_cons_zero, List.set_cons_succ]
      refine' wpAnyH_take (i := 3) (oi := ⟨some 11, _, _, _, _, _⟩) (v := _) rfl (by kernel_rfl) (by kernel_rfl) (by kernel_rfl) (fun _ _ _ h => h) (Or.inl ⟨by rfl, ?y3⟩) hS0 ?r3
      case y3 => (intro w' hSw; subst hSw; have k1 := K1.out; have k2 := K2.out; have e3 := HEQ.out; go_simp; try rfl)
      try simp only [Act.put, List.setIfInBounds_toArray, List.set_cons_zero, List.set_cons_succ]
      refine' wpAnyH_take (i := 4) (oi := ⟨some 12, _, _, _, _, _⟩) (v := _) rfl (by kernel_rfl) (by kernel_rfl) (by kernel_rfl) (fun _ _ _ h => h) (Or.inl ⟨by rfl, ?y4⟩) hS0 ?r4
      case y4 => (intro w' hSw; subst hSw; have k1 := K1.out; have k2 := K2.out; have e3 := HEQ.out; go_simp; rw [if_pos BN.out]; try rfl)
      try simp only [Act.put, List.setIfInBounds_toArray, List.set_cons_zero, List.set_cons_succ]
      refine' wpAnyH_take (i := 6) (oi := ⟨some 14, _, _, _, _, _⟩) (v := _) rfl (by kernel_rfl) (by kernel_rfl) (by kernel_rfl) (fun _ _ _ h => h) (Or.inl ⟨by rfl, ?y6⟩) hS0 ?r6
      case y6 => (intro w' hSw; subst hSw; have k1 := K1.out; have k2 := K2.out; have e3 := HEQ.out; go_simp; try rfl)
      try simp only [Act.put, List.setIfInBounds_toArray, List.set_cons_zero, List.set_cons_succ]
      refine' wpAnyH_take (i := 7) (oi := ⟨some 15, _, _, _, _, _⟩) (v := _) rfl (by kernel_rfl) (by kernel_rfl) (by kernel_rfl) (fun _ _ _ h => h) (Or.inl ⟨by rfl, ?y7⟩) hS0 ?r7
      case y7 => (intro w' hSw; subst hSw; have k1 := K1.out; have k2 := K2.out; have e3 := HEQ.out; go_simp; try rfl)
      try simp only [Act.put, List.setIfInBounds_toArray, List.set_cons_zero, List.set_cons_succ]
      refine' wpAnyH_take (i := 8) (oi := ⟨some 16, _, _, _, _, _⟩) (v := _) rfl (by kernel_rfl) (by kernel_rfl) (by kernel_rfl) (fun _ _ _ h => h) (Or.inl ⟨by rfl, ?y8⟩) hS0 ?r8
      case y8 => (intro w' hSw; subst hSw; have k1 := K1.out; have k2 := K2.out; have e3 := HEQ.out; go_simp; try rfl)
      try simp only [Act.put, List.setIfInBounds_toArray, List.set_cons_zero, List.set_cons_succ]
      refine' wpAnyH_take (i := 9) (oi := ⟨some 17, _, _, _, _, _⟩) (v := _) rfl (by kernel_rfl) (by kernel_rfl) (by kernel_rfl) (fun _ _ _ h => h) (Or.inl ⟨by rfl, ?y9⟩) hS0 ?r9
      case y9 => (intro w' hSw; subst hSw; have k1 := K1.out; have k2 := K2.out; have e3 := HEQ.out; go_simp; try rfl)
      try simp only [Act.put, List.setIfInBounds_toArray, List.set_cons_zero, List.set_cons_succ]
      refine' wpAnyH_take (i := 10) (oi := ⟨some 18, _, _, _, _, _⟩) (v := _) rfl (by kernel_rfl) (by kernel_rfl) (by kernel_rfl) (fun _ _ _ h => h) (Or.inl ⟨by rfl, ?y10⟩) hS0 ?r10
      case y10 => (intro w' hSw; subst hSw; have k1 := K1.out; have k2 := K2.out; have e3 := HEQ.out; go_simp; rw [if_pos BN.out]; try rfl)
      try simp only [Act.put, List.setIfInBounds_toArray, List.set_cons_zero, List.set_cons_succ]
      refine' wpAnyH_take (i := 5) (oi := ⟨some 13, _, _, _, _, _⟩) (v := .agg C1.toArray) rfl (by kernel_rfl) (by kernel_rfl) (by kernel_rfl) (fun _ _ _ h => h) (yieldsIf_load_mid (by rfl) 39 _ rfl gt (1 + n * 32) rfl C1 _ (fun X hX => by subst hX; exact HR1.out) Tryd.underlying39 rfl HI1.out) hS0 ?r5
      try simp only [Act.put, List.setIfInBounds_toArray, List.set_cons_zero, List.set_cons_succ]
      refine' wpAnyH_take (i := 11) (oi := ⟨some 19, _, _, _, _, _⟩) (v := .agg C2.toArray) rfl (by kernel_rfl) (by kernel_rfl) (by kernel_rfl) (fun _ _ _ h => h) (yieldsIf_load_mid (by rfl) 39 _ rfl go' (1 + n * 32) rfl C2 _ (fun X hX => by subst hX; exact HR2.out) Tryd.underlying39 rfl HI2.out) hS0 ?r11
      try simp only [Act.put, List.setIfInBounds_toArray, List.set_cons_zero, List.set_cons_succ]
      refine' wpAnyH_take (i := 12) (oi := ⟨some 20, _, _, _, _, _⟩) (v := _) rfl (by kernel_rfl) (by kernel_rfl) (by kernel_rfl) (fun _ _ _ h => h) (Or.inl ⟨by rfl, ?y12⟩) hS0 ?r12
      case y12 => (intro w' hSw; subst hSw; have k1 := K1.out; have k2 := K2.out; have e3 := HEQ.out; go_simp; try rfl)
      try simp only [Act.put, List.setIfInBounds_toArray, List.set_cons_zero, List.set_cons_succ]
      refine' wpAnyH_take (i := 13) (oi := ⟨some 7, _, _, _, _, _⟩) (v := _) rfl (by kernel_rfl) (by kernel_rfl) (by kernel_rfl) (fun _ _ _ h => h) (Or.inl ⟨by rfl, ?y13⟩) hS0 ?r13
      case y13 => (intro w' hSw; subst hSw; have k1 := K1.out; have k2 := K2.out; have e3 := HEQ.out; go_simp; try rfl)
      try simp only [Act.put, List.setIfInBounds_toArray, List.set_cons_zero, List.set_cons_succ]
      refine wpAnyH_done (by kernel_rfl) ?_ _
      have HNE := Lib.hid (of_decide_eq_false Hq.out)
      have HWK := Lib.hid (show ∀ A : List Nat × Nat, A = (if 64 ≤ n then ([n - 64], 1) else ((wk H J k (2 * n)).1 ++ (wk H J k (2 * n + 1)).1, 1 + (wk H J k (2 * n)).2 + (wk H J k (2 * n + 1)).2)) → wk H J (k + 1) n = A from fun A hA => by rw [hA]; show (if H n = J n then _ else _) = _; rw [if_neg HNE.out])
      replace HW := HWd
      clear HEQ HR1 HR2 HI1 HI2 K1 K2 Hq HWd HNE
      generalize Z0 = W1 at HW ⊢
      by_cases h64 : 64 ≤ n
      · have HV := Lib.hid (HWK.out ([n - 64], 1) (by rw [if_pos h64]))
        obtain ⟨i0, hi, hz0, hz1, hz2⟩ := info_parts info_int
        obtain ⟨v, hv, hov⟩ := HW.out.c3
        have hsz := HW.out.c4.lt
        have K3 := hv.cell 0
        have F3 := hv.frozen 0
        simp only [List.getElem?_toArray, List.getElem?_cons_zero] at K3
        have HCV := Lib.hid (show iw (n - 64) = Value.int .i64 ((n : Int) - 64) by unfold iw; congr 1; omega)
        have HVA := Lib.hid (hv.alloc (.cells #[Value.int .i64 ((n : Int) - 64)] 3))
        have HOA := Lib.hid (show (W1.alloc (.cells #[Value.int .i64 ((n : Int) - 64)] 3)).ownsRow (B + 1 + 1 + 1 + 1) 3 1 v X.length (X.map iw) from World.ownsRow.alloc hov _)
        have HWA := Lib.hid (HW.out.below.alloc (show B ≤ W1.heap.size by omega) (.cells #[Value.int .i64 ((n : Int) - 64)] 3))
        have HC1 := Lib.hid (HW.out.c1.alloc (.cells #[Value.int .i64 ((n : Int) - 64)] 3))
        have HC2 := Lib.hid (HW.out.c2.alloc (.cells #[Value.int .i64 ((n : Int) - 64)] 3))
        have HC4 := Lib.hid (HW.out.c4.alloc (.cells #[Value.int .i64 ((n : Int) - 64)] 3))
        have HCN := Lib.hid (cell_one_new W1 (Value.int .i64 ((n : Int) - 64)) 3)
        have HL1 := Lib.hid (show X.length + 1 ≤ maxLen by unfold maxLen; have := HX.out; have := Nat.two_pow_pos (k + 1 + 1); omega)
        have HL2 := Lib.hid (show (X.length + 1) * 8 ≤ 140737488355328 by have := HX.out; have := Nat.two_pow_pos (k + 1 + 1); omega)
        have HBS := Lib.hid (show B + 1 + 1 + 1 + 1 ≤ (W1.alloc (.cells #[Value.int .i64 ((n : Int) - 64)] 3)).heap.size by simp; omega)
        have HLT := Lib.hid (OwnI.lt hov)
        have hsh : ∃ A c, v = .slice A X.length c := by
          rcases hov.2 with ⟨rfl, h0⟩ | ⟨g, cap, cur, rfl, _⟩
          · exact ⟨none, 0, by rw [h0]⟩
          · exact ⟨_, _, rfl⟩
        obtain ⟨A3, c3, rfl⟩ := hsh
        clear hov hv
        go_wp2_with (at_builtin; refine wpList_append_own_at _ rfl _ _ 53 rfl (B + 1 + 1 + 1 + 1) 3 i0 (.int .i64 0) 1 8 Tryd.underlying53 hi hz0 hz1 hz2 rfl (by decide) (.slice A3 X.length c3) X.length (X.map iw) rfl HOA.out ⟨W1.heap.size, 0, none⟩ 1 1 [Value.int .i64 ((n : Int) - 64)] rfl rfl HCN.out (by simp [Value.oneCell']) HL1.out HL2.out HBS.out ?_)
        intro v5 w5 ho5 hg5 _ _
        have hne : ∀ i, i < B + 1 + 1 + 1 + 1 → some i ≠ (Value.slice A3 X.length c3).ownBlock := fun i hi e => by have := (HLT.out i e.symm).1; omega
        have hV5 := HVA.out.grown hg5 (hne _ (by omega))
        have H15 := Lib.hid (HC1.out.grown hg5 (hne _ (by omega)))
        have H25 := Lib.hid (HC2.out.grown hg5 (hne _ (by omega)))
        have H45 := Lib.hid (HC4.out.grown hg5 (hne _ (by omega)))
        have HB5 := Lib.hid (HWA.out.grown hg5 (by simp; omega) (fun i hi => by have := (HLT.out i hi).1; omega))
        have HO5 := Lib.hid (show OwnI w5 (B + 1 + 1 + 1 + 1) v5 (X ++ [n - 64]) by
          unfold OwnI
          rw [List.length_append, List.map_append, List.map_cons, List.map_nil, HCV.out]
          exact ho5)
        have K5 := hV5.cell 0
        have F5 := hV5.frozen 0
        simp only [List.getElem?_toArray, List.getElem?_cons_zero] at K5
        have HV5 := Lib.hid hV5
        have hsh : ∃ A n c, v5 = .slice A n c := by
          rcases ho5.2 with ⟨rfl, h0⟩ | ⟨g, cap, cur, rfl, _⟩
          · exact ⟨none, 0, 0, rfl⟩
          · exact ⟨_, _, _, rfl⟩
        obtain ⟨A5, n5, c5, rfl⟩ := hsh
        clear ho5 hg5 hne hV5
        go_wp2
        go_ret
        refine ⟨by rw [HV.out]; rfl, ?_⟩
        rw [HV.out]
        have hOL := HO5.out.lt
        refine ⟨HB5.out.setCell (by simp; omega) _, H15.out.far (by simp; omega) _, H25.out.far (by simp) _, ⟨_, HV5.out.set_ 0 _, HO5.out.keep fun i hi => Below.heap_setCell _ _ _ _ (by have := (hOL i hi).1; simp; omega)⟩, H45.out.far (by simp) _⟩
      · have HV := Lib.hid (HWK.out ((wk H J k (2 * n)).1 ++ (wk H J k (2 * n + 1)).1, 1 + (wk H J k (2 * n)).2 + (wk H J k (2 * n + 1)).2) (by rw [if_neg h64]))
        have HW1 := HW
        obtain ⟨a, ha⟩ : ∃ a, a = 2 * n := ⟨_, rfl⟩
        obtain ⟨b, hb⟩ : ∃ b, b = 2 * n + 1 := ⟨_, rfl⟩
        rw [← hb, ← ha] at HV
        have hl1 := wk_le H J k a
        have hl2 := wk_le H J k b
        have IA := ih a
        have IB := ih b
        generalize wk H J k a = P1 at HV hl1 IA
        generalize wk H J k b = P2 at HV hl2 IB
        have hpk : 2 ^ (k + 1 + 1) = 2 * 2 ^ (k + 1) := by rw [Nat.pow_succ]; omega
        have hpk7 : 2 ^ (k + 1) ≤ 2 ^ 7 := Nat.pow_le_pow_right (by decide) hk7
        have h27 : (2 : Nat) ^ 7 = 128 := by decide
        have HXA := Lib.hid (show X.length + 2 ^ (k + 1) ≤ 1000000 by have := HX.out; omega)
        have HXB := Lib.hid (show (X ++ P1.1).length + 2 ^ (k + 1) ≤ 1000000 by have := HX.out; rw [List.length_append]; omega)
        have HPA := Lib.hid (show 128 ≤ a * 2 ^ k by have := HP.out; rw [Nat.pow_succ] at this; rw [ha, Nat.mul_comm 2 n, Nat.mul_assoc, Nat.mul_comm 2]; exact this)
        have HPB := Lib.hid (show 128 ≤ b * 2 ^ k by have := HPA.out; rw [hb, ← ha, Nat.add_mul]; omega)
        obtain ⟨m, hm⟩ : ∃ m, m = 1 + P1.2 := ⟨_, rfl⟩
        obtain ⟨t, ht⟩ : ∃ t, t = m + P2.2 := ⟨_, rfl⟩
        have E2 := Lib.hid (show IntKind.i64.wrap (2 * (n : Int)) = (a : Int) by rw [IntKind.wrap_i64]; omega)
        have E3 := Lib.hid (show IntKind.i64.wrap ((a : Int) + 1) = (b : Int) by rw [IntKind.wrap_i64]; omega)
        have EA := Lib.hid (show IntKind.i64.wrap (1 + (P1.2 : Int)) = (m : Int) by rw [IntKind.wrap_i64]; omega)
        have EB := Lib.hid (show IntKind.i64.wrap ((m : Int) + (P2.2 : Int)) = (t : Int) by rw [IntKind.wrap_i64]; omega)
        have ha1 : 1 ≤ a := by omega
        have ha2 : a < 128 := by omega
        have hb1 : 1 ≤ b := by omega
        have hb2 : b < 128 := by omega
        have HIA := Lib.hid (IA X)
        have HIB := Lib.hid (IB (X ++ P1.1))
        rw [← hm, ← ht] at HV
        clear hl1 hl2 hpk hpk7 h27 HW ha hb hm ht IA IB ih HX HP
        go_wp2_with fail
        refine wp_region_held_drew (S := fun X => X.cell? ⟨B + 1 + 1 + 1, 0, none⟩ = some (fvB B)) hfo HW1.out.drew.f4 (fun hS0 => ?_)
        replace HW1 := Lib.hid HW1.out.drew
        generalize W1.drew = Z0 at hS0 HW1 ⊢
        refine' wpAnyH_take (i := 0) (oi := ⟨some 29, _, _, _, _, _⟩) (v := _) rfl (by kernel_rfl) (by kernel_rfl) (by kernel_rfl) (fun _ _ _ h => h) (Or.inl ⟨by rfl, ?y0C⟩) hS0 ?r0C
        case y0C => (intro w' hSw; have e9 := hSw; unfold fvB at e9; go_simp; try rfl)
        try simp only [Act.put, List.setIfInBounds_toArray, List.set_cons_zero, List.set_cons_succ]
        refine' wpAnyH_take (i := 1) (oi := ⟨some 30, _, _, _, _, _⟩) (v := _) rfl (by kernel_rfl) (by kernel_rfl) (by kernel_rfl) (fun _ _ _ h => h) (Or.inl ⟨by rfl, ?y1C⟩) hS0 ?r1C
        case y1C => (intro w' hSw; have e9 := hSw; unfold fvB at e9; go_simp; try rfl)
        try simp only [Act.put, List.setIfInBounds_toArray, List.set_cons_zero, List.set_cons_succ]
        refine' wpAnyH_take (i := 2) (oi := ⟨some 31, _, _, _, _, _⟩) (v := _) rfl (by kernel_rfl) (by kernel_rfl) (by kernel_rfl) (fun _ _ _ h => h) (Or.inl ⟨by rfl, ?y2C⟩) hS0 ?r2C
        case y2C => (intro w' hSw; have e9 := hSw; unfold fvB at e9; go_simp; rw [E2.out]; try rfl)
        try simp only [Act.put, List.setIfInBounds_toArray, List.set_cons_zero, List.set_cons_succ]
        refine' wpAnyH_take (i := 5) (oi := ⟨some 34, _, _, _, _, _⟩) (v := _) rfl (by kernel_rfl) (by kernel_rfl) (by kernel_rfl) (fun _ _ _ h => h) (Or.inl ⟨by rfl, ?y5C⟩) hS0 ?r5C
        case y5C => (intro w' hSw; have e9 := hSw; unfold fvB at e9; go_simp; try rfl)
        try simp only [Act.put, List.setIfInBounds_toArray, List.set_cons_zero, List.set_cons_succ]
        refine' wpAnyH_take (i := 6) (oi := ⟨some 35, _, _, _, _, _⟩) (v := _) rfl (by kernel_rfl) (by kernel_rfl) (by kernel_rfl) (fun _ _ _ h => h) (Or.inl ⟨by rfl, ?y6C⟩) hS0 ?r6C
        case y6C => (intro w' hSw; have e9 := hSw; unfold fvB at e9; go_simp; try rfl)
        try simp only [Act.put, List.setIfInBounds_toArray, List.set_cons_zero, List.set_cons_succ]
        refine' wpAnyH_take (i := 7) (oi := ⟨some 36, _, _, _, _, _⟩) (v := _) rfl (by kernel_rfl) (by kernel_rfl) (by kernel_rfl) (fun _ _ _ h => h) (Or.inl ⟨by rfl, ?y7C⟩) hS0 ?r7C
        case y7C => (intro w' hSw; have e9 := hSw; unfold fvB at e9; go_simp; rw [E2.out]; try rfl)
        try simp only [Act.put, List.setIfInBounds_toArray, List.set_cons_zero, List.set_cons_succ]
        refine' wpAnyH_take (i := 8) (oi := ⟨some 37, _, _, _, _, _⟩) (v := _) rfl (by kernel_rfl) (by kernel_rfl) (by kernel_rfl) (fun _ _ _ h => h) (Or.inl ⟨by rfl, ?y8C⟩) hS0 ?r8C
        case y8C => (intro w' hSw; have e9 := hSw; unfold fvB at e9; go_simp; rw [E3.out]; try rfl)
        try simp only [Act.put, List.setIfInBounds_toArray, List.set_cons_zero, List.set_cons_succ]
        refine held_one (i := 3) (by kernel_rfl) rfl (fun KC hK => ?_)
        go_simp
        refine (HIA.out Z0 HW1.out ha1 ha2 HPA.out HXA.out).mono ?_
        rintro e Z1 ⟨rfl, hw1⟩
        have hS1 := hw1.f4
        refine hK.out _ _ hS1 (fun _ => ?_)
        clear hK KC
        try simp only [Act.put, List.setIfInBounds_toArray, List.set_cons_zero, List.set_cons_succ]
        have HW2 := Lib.hid hw1
        clear hw1
        refine' wpAnyH_take (i := 4) (oi := ⟨some 33, _, _, _, _, _⟩) (v := _) rfl (by kernel_rfl) (by kernel_rfl) (by kernel_rfl) (fun _ _ _ h => h) (Or.inl ⟨by rfl, ?y4C⟩) hS1 ?r4C
        case y4C => (intro w' hSw; go_simp; rw [EA.out]; try rfl)
        try simp only [Act.put, List.setIfInBounds_toArray, List.set_cons_zero, List.set_cons_succ]
        refine held_one (i := 9) (by kernel_rfl) rfl (fun KC hK => ?_)
        go_simp
        refine (HIB.out Z1 HW2.out hb1 hb2 HPB.out HXB.out).mono ?_
        rintro e Z2 ⟨rfl, hw2⟩
        have hS2 := hw2.f4
        refine hK.out _ _ hS2 (fun _ => ?_)
        clear hK KC
        try simp only [Act.put, List.setIfInBounds_toArray, List.set_cons_zero, List.set_cons_succ]
        have HW3 := Lib.hid hw2
        clear hw2
        refine' wpAnyH_take (i := 10) (oi := ⟨some 39, _, _, _, _, _⟩) (v := _) rfl (by kernel_rfl) (by kernel_rfl) (by kernel_rfl) (fun _ _ _ h => h) (Or.inl ⟨by rfl, ?y10C⟩) hS2 ?r10C
        case y10C => (intro w' hSw; go_simp; rw [EB.out]; try rfl)
        try simp only [Act.put, List.setIfInBounds_toArray, List.set_cons_zero, List.set_cons_succ]
        refine' wpAnyH_take (i := 11) (oi := ⟨some 6, _, _, _, _, _⟩) (v := _) rfl (by kernel_rfl) (by kernel_rfl) (by kernel_rfl) (fun _ _ _ h => h) (Or.inl ⟨by rfl, ?y11C⟩) hS2 ?r11C
        case y11C => (intro w' hSw; go_simp; try rfl)
        try simp only [Act.put, List.setIfInBounds_toArray, List.set_cons_zero, List.set_cons_succ]
        refine wpAnyH_done (by kernel_rfl) ?_ _
        clear hS0 hS1 hS2
        go_wp2
        go_ret
        exact ⟨by rw [HV.out]; rfl, by rw [HV.out, ← List.append_assoc]; exact HW3.out⟩
    · go_wp2_with fail
      refine wp_region_held_drew (S := fun X => X = w.drew) hfo rfl (fun hS0 => ?_)
      generalize w.drew = Z0 at *
      refine' wpAnyH_take (i := 0) (oi := ⟨some 8, _, _, _, _, _⟩) (v := _) rfl (by kernel_rfl) (by kernel_rfl) (by kernel_rfl) (fun _ _ _ h => h) (Or.inl ⟨by rfl, ?y0B⟩) hS0 ?r0B
      case y0B => (intro w' hSw; subst hSw; have k1 := K1.out; have k2 := K2.out; have e3 := HEQ.out; go_simp; try rfl)
      try simp only [Act.put, List.setIfInBounds_toArray, List.set_cons_zero, List.set_cons_succ]
      refine' wpAnyH_take (i := 1) (oi := ⟨some 9, _, _, _, _, _⟩) (v := _) rfl (by kernel_rfl) (by kernel_rfl) (by kernel_rfl) (fun _ _ _ h => h) (Or.inl ⟨by rfl, ?y1B⟩) hS0 ?r1B
      case y1B => (intro w' hSw; subst hSw; have k1 := K1.out; have k2 := K2.out; have e3 := HEQ.out; go_simp; try rfl)
      try simp only [Act.put, List.setIfInBounds_toArray, List.set_cons_zero, List.set_cons_succ]
      refine' wpAnyH_take (i := 2) (oi := ⟨some 10, _, _, _, _, _⟩) (v := _) rfl (by kernel_rfl) (by kernel_rfl) (by kernel_rfl) (fun _ _ _ h => h) (Or.inl ⟨by rfl, ?y2B⟩) hS0 ?r2B
      case y2B => (intro w' hSw; subst hSw; have k1 := K1.out; have k2 := K2.out; have e3 := HEQ.out; go_simp; try rfl)
      try simp only [Act.put, List.setIfInBounds_toArray, List.set_cons_zero, List.set_cons_succ]
      refine' wpAnyH_take (i := 3) (oi := ⟨some 11, _, _, _, _, _⟩) (v := _) rfl (by kernel_rfl) (by kernel_rfl) (by kernel_rfl) (fun _ _ _ h => h) (Or.inl ⟨by rfl, ?y3B⟩) hS0 ?r3B
      case y3B => (intro w' hSw; subst hSw; have k1 := K1.out; have k2 := K2.out; have e3 := HEQ.out; go_simp; try rfl)
      try simp only [Act.put, List.setIfInBounds_toArray, List.set_cons_zero, List.set_cons_succ]
      refine' wpAnyH_take (i := 4) (oi := ⟨some 12, _, _, _, _, _⟩) (v := _) rfl (by kernel_rfl) (by kernel_rfl) (by kernel_rfl) (fun _ _ _ h => h) (Or.inl ⟨by rfl, ?y4B⟩) hS0 ?r4B
      case y4B => (intro w' hSw; subst hSw; have k1 := K1.out; have k2 := K2.out; have e3 := HEQ.out; go_simp; rw [if_pos BN.out]; try rfl)
      try simp only [Act.put, List.setIfInBounds_toArray, List.set_cons_zero, List.set_cons_succ]
      refine' wpAnyH_take (i := 6) (oi := ⟨some 14, _, _, _, _, _⟩) (v := _) rfl (by kernel_rfl) (by kernel_rfl) (by kernel_rfl) (fun _ _ _ h => h) (Or.inl ⟨by rfl, ?y6B⟩) hS0 ?r6B
      case y6B => (intro w' hSw; subst hSw; have k1 := K1.out; have k2 := K2.out; have e3 := HEQ.out; go_simp; try rfl)
      try simp only [Act.put, List.setIfInBounds_toArray, List.set_cons_zero, List.set_cons_succ]
      refine' wpAnyH_take (i := 7) (oi := ⟨some 15, _, _, _, _, _⟩) (v := _) rfl (by kernel_rfl) (by kernel_rfl) (by kernel_rfl) (fun _ _ _ h => h) (Or.inl ⟨by rfl, ?y7B⟩) hS0 ?r7B
      case y7B => (intro w' hSw; subst hSw; have k1 := K1.out; have k2 := K2.out; have e3 := HEQ.out; go_simp; try rfl)
      try simp only [Act.put, List.setIfInBounds_toArray, List.set_cons_zero, List.set_cons_succ]
      refine' wpAnyH_take (i := 8) (oi := ⟨some 16, _, _, _, _, _⟩) (v := _) rfl (by kernel_rfl) (by kernel_rfl) (by kernel_rfl) (fun _ _ _ h => h) (Or.inl ⟨by rfl, ?y8B⟩) hS0 ?r8B
      case y8B => (intro w' hSw; subst hSw; have k1 := K1.out; have k2 := K2.out; have e3 := HEQ.out; go_simp; try rfl)
      try simp only [Act.put, List.setIfInBounds_toArray, List.set_cons_zero, List.set_cons_succ]
      refine' wpAnyH_take (i := 9) (oi := ⟨some 17, _, _, _, _, _⟩) (v := _) rfl (by kernel_rfl) (by kernel_rfl) (by kernel_rfl) (fun _ _ _ h => h) (Or.inl ⟨by rfl, ?y9B⟩) hS0 ?r9B
      case y9B => (intro w' hSw; subst hSw; have k1 := K1.out; have k2 := K2.out; have e3 := HEQ.out; go_simp; try rfl)
      try simp only [Act.put, List.setIfInBounds_toArray, List.set_cons_zero, List.set_cons_succ]
      refine' wpAnyH_take (i := 10) (oi := ⟨some 18, _, _, _, _, _⟩) (v := _) rfl (by kernel_rfl) (by kernel_rfl) (by kernel_rfl) (fun _ _ _ h => h) (Or.inl ⟨by rfl, ?y10B⟩) hS0 ?r10B
      case y10B => (intro w' hSw; subst hSw; have k1 := K1.out; have k2 := K2.out; have e3 := HEQ.out; go_simp; rw [if_pos BN.out]; try rfl)
      try simp only [Act.put, List.setIfInBounds_toArray, List.set_cons_zero, List.set_cons_succ]
      refine' wpAnyH_take (i := 5) (oi := ⟨some 13, _, _, _, _, _⟩) (v := .agg C1.toArray) rfl (by kernel_rfl) (by kernel_rfl) (by kernel_rfl) (fun _ _ _ h => h) (yieldsIf_load_mid (by rfl) 39 _ rfl gt (1 + n * 32) rfl C1 _ (fun X hX => by subst hX; exact HR1.out) Tryd.underlying39 rfl HI1.out) hS0 ?r5B
      try simp only [Act.put, List.setIfInBounds_toArray, List.set_cons_zero, List.set_cons_succ]
      refine' wpAnyH_take (i := 11) (oi := ⟨some 19, _, _, _, _, _⟩) (v := .agg C2.toArray) rfl (by kernel_rfl) (by kernel_rfl) (by kernel_rfl) (fun _ _ _ h => h) (yieldsIf_load_mid (by rfl) 39 _ rfl go' (1 + n * 32) rfl C2 _ (fun X hX => by subst hX; exact HR2.out) Tryd.underlying39 rfl HI2.out) hS0 ?r11B
      try simp only [Act.put, List.setIfInBounds_toArray, List.set_cons_zero, List.set_cons_succ]
      refine' wpAnyH_take (i := 12) (oi := ⟨some 20, _, _, _, _, _⟩) (v := _) rfl (by kernel_rfl) (by kernel_rfl) (by kernel_rfl) (fun _ _ _ h => h) (Or.inl ⟨by rfl, ?y12B⟩) hS0 ?r12B
      case y12B => (intro w' hSw; subst hSw; have k1 := K1.out; have k2 := K2.out; have e3 := HEQ.out; go_simp; try rfl)
      try simp only [Act.put, List.setIfInBounds_toArray, List.set_cons_zero, List.set_cons_succ]
      refine' wpAnyH_take (i := 13) (oi := ⟨some 7, _, _, _, _, _⟩) (v := _) rfl (by kernel_rfl) (by kernel_rfl) (by kernel_rfl) (fun _ _ _ h => h) (Or.inl ⟨by rfl, ?y13B⟩) hS0 ?r13B
      case y13B => (intro w' hSw; subst hSw; have k1 := K1.out; have k2 := K2.out; have e3 := HEQ.out; go_simp; try rfl)
      try simp only [Act.put, List.setIfInBounds_toArray, List.set_cons_zero, List.set_cons_succ]
      refine wpAnyH_done (by kernel_rfl) ?_ _
      have HV := Lib.hid (show wk H J (k + 1) n = ([], 1) by show (if H n = J n then _ else _) = _; rw [if_pos (of_decide_eq_true Hq.out)])
      go_wp2
      go_ret
      exact ⟨by rw [HV.out]; rfl, by rw [HV.out, List.append_nil]; exact HWd.out⟩
end Go.Proofs.YtdbhffkfkklehaaDoor

/-
  The walk of Diff.
-/
namespace Go.Proofs.YtdbhffkfkklehaaDoor
open Go.RowKit
set_option linter.unusedVariables false
set_option linter.unusedSimpArgs false
set_option maxRecDepth 100000

/-- What Diff answers: the buckets that differ, as a row of the call's own, and how many pairs. -/
def DiffEnd (X : List Nat) (n : Nat) (w : World) (e : Ending) (w' : World) : Prop :=
  ∃ v, e = .returned (.tuple #[v, .int .i64 (n : Int), .int .i64 0]) ∧ OwnI w' w.heap.size v X ∧ Below w.heap.size w w'
theorem OwnI.nil (w : World) (base : Nat) : OwnI w base (.slice none 0 0) [] := World.ownsRow_nil w base _ 1
theorem OwnI.mono {w : World} {base B : Nat} {v : Value} {X : List Nat} (h : OwnI w base v X) (hB : B ≤ base) : OwnI w B v X := by
  refine ⟨h.1, ?_⟩
  rcases h.2 with h2 | ⟨g, cap, cur, hv, hg, hh, r⟩
  · exact Or.inl h2
  · exact Or.inr ⟨g, cap, cur, hv, by omega, hh, r⟩

set_option maxHeartbeats 4000000 in
theorem diff_any (w : World) (g k : Nat) (H J : Nat → List UInt8) (h : Tr w g H) (hk : Tr w k J) :
    Calls Tryd.prog 24 #[.pointer (some ⟨g, 0, none⟩), .pointer (some ⟨k, 0, none⟩)] w (DiffEnd (wk H J 7 1).1 (wk H J 7 1).2 w) := by
  have hT := ((h.alloc (.cells #[.pointer (some ⟨g, 0, none⟩)] 25)).alloc (.cells #[.pointer (some ⟨k, 0, none⟩)] 25))
  have hK := ((hk.alloc (.cells #[.pointer (some ⟨g, 0, none⟩)] 25)).alloc (.cells #[.pointer (some ⟨k, 0, none⟩)] 25))
  have HT := Lib.hid h
  have HK := Lib.hid hk
  go_enter Tryd.func24, Tryd.ntmps24
  go_wp2_with fail
  refine (none_tree _ hT).mono ?_
  rintro e w1 ⟨rfl, rfl⟩
  go_wp2_with fail
  refine (none_tree _ hK).mono ?_
  rintro e w1 ⟨rfl, rfl⟩
  clear hT hK h hk
  go_wp2_with fail
  have hw : Wk w.heap.size w g k [] ((((w.alloc (.cells #[.pointer (some ⟨g, 0, none⟩)] 25)).alloc (.cells #[.pointer (some ⟨k, 0, none⟩)] 25)).alloc (.cells #[.slice none 0 0] 53)).alloc (.cells #[fvB w.heap.size] 69)) := by
    have e1 : (w.alloc (.cells #[.pointer (some ⟨g, 0, none⟩)] 25)).heap.size = w.heap.size + 1 := by simp
    have e2 : ((w.alloc (.cells #[.pointer (some ⟨g, 0, none⟩)] 25)).alloc (.cells #[.pointer (some ⟨k, 0, none⟩)] 25)).heap.size = w.heap.size + 1 + 1 := by simp
    have e3 : (((w.alloc (.cells #[.pointer (some ⟨g, 0, none⟩)] 25)).alloc (.cells #[.pointer (some ⟨k, 0, none⟩)] 25)).alloc (.cells #[.slice none 0 0] 53)).heap.size = w.heap.size + 1 + 1 + 1 := by simp
    refine ⟨((((Below.refl _ _).alloc (Nat.le_refl _) _).alloc (by simp) _).alloc (by simp; omega) _).alloc (by simp; omega) _, (((Blk.new w _ _).alloc _).alloc _).alloc _, ?_, ⟨.slice none 0 0, ?_, OwnI.nil _ _⟩, ?_⟩
    · have := ((Blk.new (w.alloc (.cells #[.pointer (some ⟨g, 0, none⟩)] 25)) 25 #[.pointer (some ⟨k, 0, none⟩)]).alloc (.cells #[.slice none 0 0] 53)).alloc (.cells #[fvB w.heap.size] 69)
      rw [e1] at this
      exact this
    · have := (Blk.new ((w.alloc (.cells #[.pointer (some ⟨g, 0, none⟩)] 25)).alloc (.cells #[.pointer (some ⟨k, 0, none⟩)] 25)) 53 #[.slice none 0 0]).alloc (.cells #[fvB w.heap.size] 69)
      rw [e2] at this
      exact this
    · have := Blk.new (((w.alloc (.cells #[.pointer (some ⟨g, 0, none⟩)] 25)).alloc (.cells #[.pointer (some ⟨k, 0, none⟩)] 25)).alloc (.cells #[.slice none 0 0] 53)) 69 #[fvB w.heap.size]
      rw [e3] at this
      exact this
  refine (walk_any HT.out HK.out HT.out.lt HK.out.lt 7 (Nat.le_refl _) 1 [] _ hw (by decide) (by decide) (by decide) (by decide)).mono ?_
  rintro e w2 ⟨rfl, hw2⟩
  rw [List.nil_append] at hw2
  obtain ⟨v, hv, hov⟩ := hw2.c3
  have HO := Lib.hid hov
  have HB := Lib.hid hw2.below
  have K3 := hv.cell 0
  simp only [List.getElem?_toArray, List.getElem?_cons_zero] at K3
  generalize hA : wk H J 7 1 = A at HO ⊢
  have HAA := Lib.hid hA
  clear hA
  clear hw hw2 hov hv
  go_wp2
  go_ret3
  exact ⟨v, by rw [HAA.out]; rfl, by rw [HAA.out]; exact HO.out.mono (by omega), HB.out⟩
theorem diff_no (w : World) (p q : Value) (hp : NoTr w p) (hq : ∃ g, q = .pointer g) :
    Calls Tryd.prog 24 #[p, q] w fun e w' => e = .returned (.tuple #[.slice none 0 0, .int .i64 0, .int .i64 1]) ∧ Below w.heap.size w w' := by
  have hsh : ∃ q, p = .pointer q := by rcases hp with rfl | ⟨g, rfl, _⟩ <;> exact ⟨_, rfl⟩
  obtain ⟨p, rfl⟩ := hsh
  obtain ⟨q, rfl⟩ := hq
  have hb : Below w.heap.size w ((w.alloc (.cells #[.pointer p] 25)).alloc (.cells #[.pointer q] 25)) := ((Below.refl _ _).alloc (Nat.le_refl _) _).alloc (by simp) _
  go_enter Tryd.func24, Tryd.ntmps24
  go_wp2_with fail
  refine (none_no _ _ (hp.below hb)).mono ?_
  rintro e w1 ⟨rfl, rfl⟩
  go_wp2
  go_ret3
  exact ⟨rfl, hb⟩
theorem diff_no2 (w : World) (g : Nat) (H : Nat → List UInt8) (q : Value) (h : Tr w g H) (hp : NoTr w q) :
    Calls Tryd.prog 24 #[.pointer (some ⟨g, 0, none⟩), q] w fun e w' => e = .returned (.tuple #[.slice none 0 0, .int .i64 0, .int .i64 1]) ∧ Below w.heap.size w w' := by
  have hsh : ∃ p, q = .pointer p := by rcases hp with rfl | ⟨g, rfl, _⟩ <;> exact ⟨_, rfl⟩
  obtain ⟨q, rfl⟩ := hsh
  have hb : Below w.heap.size w ((w.alloc (.cells #[.pointer (some ⟨g, 0, none⟩)] 25)).alloc (.cells #[.pointer q] 25)) := ((Below.refl _ _).alloc (Nat.le_refl _) _).alloc (by simp) _
  go_enter Tryd.func24, Tryd.ntmps24
  go_wp2_with fail
  refine (none_tree _ (h.past hb)).mono ?_
  rintro e w1 ⟨rfl, rfl⟩
  go_wp2_with fail
  refine (none_no _ _ (hp.below hb)).mono ?_
  rintro e w1 ⟨rfl, rfl⟩
  go_wp2
  go_ret3
  exact ⟨rfl, hb⟩
end Go.Proofs.YtdbhffkfkklehaaDoor

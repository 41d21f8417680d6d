/-
  The walk of slices.BinarySearchFunc at dots, of ctx's search and ofRegion.
-/
import Derived.Test.YtldfaaahmpncbaaGreatCtxTurn
import Derived.Shelf.SlSortCmp.QuietGrown
namespace Go.Proofs.YtldfaaahmpncbaaGreat
open Go.RowKit
open CtxM
set_option linter.unusedVariables false
set_option linter.unusedSimpArgs false

/-- How many dots of a list are ahead of d. -/
def cnt (L : List Dt) (d : Dt) : Nat := (L.filter fun x => decide (Lt x d)).length
theorem cnt_of {L : List Dt} {d : Dt} {i : Nat} (hi : i ≤ L.length) (h1 : ∀ k (h : k < L.length), k < i → Lt L[k] d) (h2 : ∀ k (h : k < L.length), i ≤ k → ¬ Lt L[k] d) : cnt L d = i ∧ (L.filter fun x => decide (Lt x d)) = L.take i := by
  have e : (L.filter fun x => decide (Lt x d)) = L.take i := by
    conv => lhs; rw [← List.take_append_drop i L]
    rw [List.filter_append, List.filter_eq_self.2, List.filter_eq_nil_iff.2, List.append_nil]
    · intro x hx
      obtain ⟨k, hk, rfl⟩ := List.getElem_of_mem hx
      rw [List.length_drop] at hk
      simpa using h2 (i + k) (by omega) (by omega)
    · intro x hx
      obtain ⟨k, hk, rfl⟩ := List.getElem_of_mem hx
      rw [List.length_take] at hk
      simpa using h1 k (by omega) (by omega)
  refine ⟨?_, e⟩
  unfold cnt
  rw [e, List.length_take]; omega
theorem mem_iff_at {L : List Dt} {d : Dt} {i : Nat} (hr : Rise L) (h1 : ∀ k (h : k < L.length), k < i → Lt L[k] d) (h2 : ∀ k (h : k < L.length), i ≤ k → ¬ Lt L[k] d) : d ∈ L ↔ ∃ h : i < L.length, L[i] = d := by
  constructor
  · intro hd
    obtain ⟨k, hk, e⟩ := List.getElem_of_mem hd
    have hik : i ≤ k := by
      rcases Nat.lt_or_ge k i with hlt | hge
      · exact absurd (e ▸ h1 k hk hlt) (Lt.irrefl d)
      · exact hge
    rcases Nat.lt_or_ge i k with hlt | hge
    · have h3 := (List.pairwise_iff_getElem.1 hr) i k (by omega) hk hlt
      rw [e] at h3
      exact absurd h3 (h2 i (by omega) (Nat.le_refl _))
    · obtain rfl : i = k := by omega
      exact ⟨hk, e⟩
  · rintro ⟨h, e⟩
    exact e ▸ List.getElem_mem h

/-- What lies in a world lies in every one that has grown of it. -/
theorem Sd.grw {w : World} {b o c : Nat} {L : List Dt} (h : Sd w (.slice (some ⟨b, o, none⟩) L.length c) L) (k : Nat) (hk : k < L.length) :
    (∀ n os, (Go.Sort.grow (w.drewN n) os).cell? ⟨b, o + k * 2, none⟩ = some (.int .i64 L[k].1)) ∧ ∀ n os, (Go.Sort.grow (w.drewN n) os).cell? ⟨b, o + k * 2 + 1, none⟩ = some (.int .u64 (L[k].2 : Int)) := by
  obtain ⟨A, c', e, hc, ha⟩ := h
  injection e with e1 e2 e3
  obtain ⟨b', o', e4, hx⟩ := ha (by omega)
  rw [← e1] at e4
  injection e4 with e4
  injection e4 with e5 e6
  subst e5; subst e6
  exact ⟨fun n os => cell_grown (World.block_lt_of_cell? w _ (hx k hk).1) (hx k hk).1 n os, fun n os => cell_grown (World.block_lt_of_cell? w _ (hx k hk).2) (hx k hk).2 n os⟩

theorem half_facts (i j : Nat) (hij : i < j) (hj : j ≤ 1000000000) : IntKind.u64.wrap ((i : Int) + (j : Int)) = ((i + j : Nat) : Int) ∧ IntKind.i64.wrap ((((i + j) / 2 : Nat) : Int)) = (((i + j) / 2 : Nat) : Int) := by
  rw [IntKind.wrap_u64]
  constructor
  · omega
  · rw [IntKind.wrap_i64]; omega

set_option maxHeartbeats 1000000 in
set_option maxRecDepth 20000 in
theorem bsearch_any (v : Value) (L : List Dt) (d : Dt) (w : World) (hs : Sd w v L) (hl : L.length ≤ 100000) (hr : Rise L) :
    Calls Tryz.prog 110 #[v, .agg #[.int .i64 d.1, .int .u64 (d.2 : Int)], .func (.func 111) #[] #[]] w fun e w' =>
      e = .returned (.tuple #[.int .i64 (cnt L d : Int), .bool (decide (d ∈ L))]) ∧ Grw w w' := by
  obtain ⟨A, c, rfl, hc, ha⟩ := id hs
  have e42 : ∀ args w, (callFunc 111 args).run Tryz.prog w = .ok (.enter 111 args) w := enters_of Tryz.func111 (by kernel_rfl) rfl
  have hfo : Tryz.prog.follows .mixedOrders = true := by kernel_rfl
  have HA := Lib.hid ha
  have HS := Lib.hid hs
  clear ha hs
  go_enter Tryz.func110, Tryz.ntmps110
  go_wp2
  go_loopw [9, 10] (fun x z wr => ∃ i j : Nat, x = .int .i64 (i : Int) ∧ z = .int .i64 (j : Int) ∧ i ≤ j ∧ j ≤ L.length ∧ (∀ k (h : k < L.length), k < i → Lt L[k] d) ∧ (∀ k (h : k < L.length), j ≤ k → ¬ Lt L[k] d) ∧ Grw (w.alloc (.cells #[.int .i64 d.1, .int .u64 (d.2 : Int)] 41)) wr) (fun x z _ => (intOf z).toNat - (intOf x).toNat)
  case atStart => exact ⟨0, L.length, rfl, rfl, Nat.zero_le _, Nat.le_refl _, fun k _ h => absurd h (by omega), fun k h1 h2 => absurd h1 (by omega), Grw.refl _⟩
  case round =>
    obtain ⟨i, j, rfl, rfl, hij, hj, h1, h2, hg⟩ := hrel
    by_cases hlt : i < j
    · obtain ⟨b, o, rfl, hx⟩ := HA.out (by omega)
      obtain ⟨h, hh⟩ : ∃ h : Nat, h = (i + j) / 2 := ⟨_, rfl⟩
      have hhe : ((i : Int) + (j : Int)) / 2 = (h : Int) := by omega
      have hhl : h < L.length := by omega
      have hS : Sd (w.alloc (.cells #[.int .i64 d.1, .int .u64 (d.2 : Int)] 41)) _ L := HS.out.alloc _
      have hS2 : Sd wr _ L := hS.below hg.below
      obtain ⟨q1, q2⟩ := hS2.grw h hhl
      have hB := ((Blk.new w 41 #[.int .i64 d.1, .int .u64 (d.2 : Int)])).below hg.below (by simp)
      have q3 : ∀ n os, (Go.Sort.grow (wr.drewN n) os).cell? ⟨w.heap.size, 0, none⟩ = some (.int .i64 d.1) := cell_grown hB.lt (by rw [hB.cell]; rfl)
      have q4 : ∀ n os, (Go.Sort.grow (wr.drewN n) os).cell? ⟨w.heap.size, 1, none⟩ = some (.int .u64 (d.2 : Int)) := cell_grown hB.lt (by rw [hB.cell]; rfl)
      have hf := half_facts i j hlt (by omega)
      have hcm := fun n os => inTurn_any L[h] d (Go.Sort.grow (wr.drewN n) os)
      have Hc := Lib.hid (cD_lt L[h] d)
      generalize hr1 : cD L[h] d = r1 at hcm Hc
      have Hh := Lib.hid hh
      clear hS hS2 hB hr1 hh
      have H1 := Lib.hid h1
      have H2 := Lib.hid h2
      have Hx := Lib.hid hx
      clear h1 h2 hx
      go_wp2_with fail
      clear hhe hf
      go_quiet_grown (first | (go_at_fn 111; refine Calls.grown_of (hcm _ _)))
      clear hcm q1 q2 q3 q4
      go_wp2
      · have h0 : Lt L[h] d := Hc.out.1 (by rename_i x; simpa using x)
        have h1 := H1.out
        have h2 := H2.out
        have hh := Hh.out
        refine ⟨⟨h + 1, j, by go_num, rfl, by omega, hj, fun k hk hkh => ?_, h2, hg.trans ⟨nq, osq, rfl⟩⟩, by simp [intOf]; omega⟩
        rcases Nat.lt_or_ge k h with hlt2 | hge
        · exact ((List.pairwise_iff_getElem.1 hr) k h hk hhl hlt2).trans h0
        · obtain rfl : k = h := by omega
          exact h0
      · have h0 : ¬ Lt L[h] d := fun hx => absurd (Hc.out.2 hx) (by rename_i x; simpa using x)
        have h1 := H1.out
        have h2 := H2.out
        have hh := Hh.out
        refine ⟨⟨i, h, rfl, rfl, by omega, by omega, h1, fun k hk hkh hx => ?_, hg.trans ⟨nq, osq, rfl⟩⟩, by simp [intOf]; omega⟩
        rcases Nat.lt_or_ge h k with hlt2 | hge
        · exact h0 (((List.pairwise_iff_getElem.1 hr) h k hhl hk hlt2).trans hx)
        · obtain rfl : k = h := by omega
          exact h0 hx
    · obtain rfl : i = j := by omega
      obtain ⟨hcn, _⟩ := cnt_of hj h1 h2
      have hme := mem_iff_at hr h1 h2
      have H1 := Lib.hid h1
      have H2 := Lib.hid h2
      have HC := Lib.hid hcn
      clear h1 h2 hcn
      by_cases hil : i < L.length
      · obtain ⟨b, o, rfl, hx⟩ := HA.out (by omega)
        have hS : Sd (w.alloc (.cells #[.int .i64 d.1, .int .u64 (d.2 : Int)] 41)) _ L := HS.out.alloc _
        have hS2 : Sd wr _ L := hS.below hg.below
        obtain ⟨q1, q2⟩ := hS2.grw i hil
        have hB := ((Blk.new w 41 #[.int .i64 d.1, .int .u64 (d.2 : Int)])).below hg.below (by simp)
        have q3 : ∀ n os, (Go.Sort.grow (wr.drewN n) os).cell? ⟨w.heap.size, 0, none⟩ = some (.int .i64 d.1) := cell_grown hB.lt (by rw [hB.cell]; rfl)
        have q4 : ∀ n os, (Go.Sort.grow (wr.drewN n) os).cell? ⟨w.heap.size, 1, none⟩ = some (.int .u64 (d.2 : Int)) := cell_grown hB.lt (by rw [hB.cell]; rfl)
        have hcm := fun n os => inTurn_any L[i] d (Go.Sort.grow (wr.drewN n) os)
        have hc0 : (cD L[i] d == 0) = decide (d ∈ L) := by
          rw [Bool.eq_iff_iff, beq_iff_eq, cD_eq, decide_eq_true_iff, hme]
          exact ⟨fun h => ⟨hil, h⟩, fun ⟨_, h⟩ => h⟩
        have Hc := Lib.hid hc0
        generalize hr1 : cD L[i] d = r1 at hcm Hc
        have Hx := Lib.hid hx
        clear hS hS2 hB hr1 hc0 hme hx
        go_wp2_with fail
        go_quiet_grown (first | (go_at_fn 111; refine Calls.grown_of (hcm _ _)))
        clear hcm q1 q2 q3 q4
        go_wp2
        go_ret2
        have e1 := HC.out
        have e2 := Hc.out
        rw [e1, ← e2]
        exact ⟨rfl, (((Grw.refl w).alloc _).trans hg).trans ⟨nq, osq, rfl⟩⟩
      · obtain rfl : i = L.length := by omega
        have hnm : decide (d ∈ L) = false := by
          rw [decide_eq_false_iff_not, hme]
          rintro ⟨h, _⟩
          exact absurd h (by omega)
        have Hn := Lib.hid hnm
        clear hme hnm
        go_wp2_with fail
        go_quiet (fail)
        go_wp2
        go_ret2
        have e1 := HC.out
        have e2 := Hn.out
        rw [e1, e2]
        exact ⟨rfl, (((Grw.refl w).alloc _).trans hg).drewN _⟩

theorem search_any (v : Value) (L : List Dt) (d : Dt) (w : World) (hs : Sd w v L) (hl : L.length ≤ 100000) (hr : Rise L) :
    Calls Tryz.prog 84 #[v, .agg #[.int .i64 d.1, .int .u64 (d.2 : Int)]] w fun e w' =>
      e = .returned (.tuple #[.int .i64 (cnt L d : Int), .bool (decide (d ∈ L))]) ∧ Grw w w' := by
  have hb := fun W (hg : Grw w W) => bsearch_any v L d W (hs.below hg.below) hl hr
  generalize cnt L d = i at hb ⊢
  generalize decide (d ∈ L) = q at hb ⊢
  go_enter Tryz.func84, Tryz.ntmps84
  go_wp2_with (go_at_call 110; refine (hb _ ((Grw.refl w).alloc _)).mono ?_; rintro e w' ⟨rfl, hg⟩)
  go_ret2
  exact ⟨rfl, ((Grw.refl w).alloc _).trans hg⟩
end Go.Proofs.YtldfaaahmpncbaaGreat

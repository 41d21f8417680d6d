/-
  The walk of slices.Compact at dots: of a list in order each dot once.
-/
import Derived.Test.YtoglhpcboonpeaaCtxIns
import Derived.Test.YtoglhpcboonpeaaCtxEq
import Derived.Test.YtoglhpcboonpeaaCtxRefA
namespace Go.Proofs.Ytoglhpcboonpeaa
open Go.RowKit
open CtxM
set_option linter.unusedVariables false
set_option linter.unusedSimpArgs false
set_option maxRecDepth 20000

/-- No later one stands ahead of an earlier one. -/
def Ord (L : List Dt) : Prop := L.Pairwise fun a b => ¬ Lt b a
/-- Of the first m dots each once. -/
structure Uq (L : List Dt) (m : Nat) (P : List Dt) : Prop where
  rise : Rise P
  mem : ∀ d, d ∈ P ↔ d ∈ L.take m
  len : P.length ≤ m
theorem ord_lt {L : List Dt} (h : Ord L) {i j : Nat} (hij : i < j) (hj : j < L.length) : ¬ Lt L[j] (L[i]'(by omega)) := (List.pairwise_iff_getElem.1 h) i j (by omega) hj hij
theorem Uq.skip {L P : List Dt} {m : Nat} (h : Uq L m P) (hm : m < L.length) (h0 : 0 < m) (he : L[m] = L[m - 1]'(by omega)) : Uq L (m + 1) P := by
  refine ⟨h.rise, fun d => ?_, by have := h.len; omega⟩
  rw [h.mem, List.take_succ_eq_append_getElem hm, List.mem_append, List.mem_singleton]
  constructor
  · exact .inl
  · rintro (h1 | h1)
    · exact h1
    · rw [h1, he]
      exact List.mem_take_iff_getElem.2 ⟨m - 1, by omega, rfl⟩
theorem Uq.keep {L P : List Dt} {m : Nat} (h : Uq L m P) (ho : Ord L) (hm : m < L.length) (h0 : 0 < m) (he : L[m] ≠ L[m - 1]'(by omega)) : Uq L (m + 1) (P ++ [L[m]]) := by
  refine ⟨?_, fun d => ?_, by have := h.len; simp; omega⟩
  · unfold Rise
    rw [List.pairwise_append]
    refine ⟨h.rise, List.pairwise_singleton _ _, fun a ha b hb => ?_⟩
    rw [List.mem_singleton] at hb
    subst hb
    obtain ⟨i, hi, rfl⟩ := List.mem_take_iff_getElem.1 ((h.mem a).1 ha)
    have hi1 : i < m := by omega
    have h1 : Lt (L[m - 1]'(by omega)) L[m] := by
      rcases Lt.tri (L[m - 1]'(by omega)) L[m] with x | x | x
      · exact x
      · exact absurd x.symm he
      · exact absurd x (ord_lt ho (by omega) hm)
    rcases Nat.lt_or_ge i (m - 1) with hlt | hge
    · rcases Lt.tri L[i] (L[m - 1]'(by omega)) with x | x | x
      · exact x.trans h1
      · rw [x]; exact h1
      · exact absurd x (ord_lt ho hlt (by omega))
    · have : i = m - 1 := by omega
      subst this
      exact h1
  · rw [List.mem_append, List.mem_singleton, h.mem, List.take_succ_eq_append_getElem hm, List.mem_append, List.mem_singleton]
theorem uq_all {L : List Dt} (ho : Ord L) {k : Nat} (hk : k ≤ L.length) (h : ∀ j (h1 : j < L.length), 1 ≤ j → j < k → L[j] ≠ L[j - 1]) : Uq L k (L.take k) := by
  induction k with
  | zero => exact ⟨by simp [Rise], by simp, by simp⟩
  | succ k ih =>
    have ih := ih (by omega) (fun j h1 h2 h3 => h j h1 h2 (by omega))
    have hkl : k < L.length := by omega
    rcases Nat.eq_zero_or_pos k with rfl | h0
    · refine ⟨?_, fun d => Iff.rfl, by simp; omega⟩
      rw [List.take_succ_eq_append_getElem hkl]
      simp [Rise]
    · have := ih.keep ho hkl h0 (h k hkl h0 (by omega))
      rw [List.take_succ_eq_append_getElem hkl]
      exact this

/-- A dot of a row set. -/
theorem OwnD.set {w : World} {base g cap n : Nat} {L : List Dt} (h : OwnD w base (.slice (some ⟨g, 0, none⟩) n cap) L) (i : Nat) (hi : i < L.length) (d : Dt) :
    OwnD (w.setCells g (i * 2) [.int .i64 d.1, .int .u64 (d.2 : Int)]) base (.slice (some ⟨g, 0, none⟩) n cap) (L.set i d) := by
  rcases h.2 with ⟨h2, _⟩ | ⟨g', cap', cur, hv, hg, hh, hnc, hcm, hs, ht⟩
  · cases h2
  · injection hv with e1 e2 e3
    injection e1 with e1
    injection e1 with e1
    subst e1; subst e2; subst e3
    have hB : Blk w g 35 cur := hh
    have hB2 := hB.lay_ (i * 2) [.int .i64 d.1, .int .u64 (d.2 : Int)] (by simp; omega)
    refine ⟨dvs_length _, .inr ⟨g, cap, _, by rw [List.length_set], hg, hB2, by rw [List.length_set]; exact hnc, hcm, ?_, ?_⟩⟩
    · rw [List.size_toArray, lay_length (by simp; omega), Array.length_toList, hs]
    · rw [List.length_set]
      have e : dvs (L.set i d) = lay (dvs L) (i * 2) (dv d) := by
        rw [List.set_eq_take_append_cons_drop, if_pos hi, dvs_append, ← dvs_take]
        show (dvs L).take (i * 2) ++ (dv d ++ dvs (L.drop (i + 1))) = _
        rw [← dvs_drop, lay, List.append_assoc, show i * 2 + (dv d).length = (i + 1) * 2 by simp [dv]; omega]
      rw [e, ← ht]
      have hcl : cur.toList.length = cap * 2 := by rw [Array.length_toList, hs]
      show (lay cur.toList (i * 2) (dv d)).take (L.length * 2) = lay (cur.toList.take (L.length * 2)) (i * 2) (dv d)
      unfold lay
      have hdl : (dv d).length = 2 := rfl
      rw [List.take_append, List.take_append, List.length_append, List.length_take, hdl, hcl, List.take_take, List.take_take, List.take_drop]
      rw [show min (L.length * 2) (i * 2) = i * 2 by omega, show min (i * 2) (L.length * 2) = i * 2 by omega]
      rw [List.take_of_length_le (l := dv d) (by rw [hdl]; omega)]
      rw [show i * 2 + 2 + (L.length * 2 - (min (i * 2) (cap * 2) + 2)) = L.length * 2 by omega]
theorem OwnD.cut {w : World} {base g cap n : Nat} {L : List Dt} (h : OwnD w base (.slice (some ⟨g, 0, none⟩) n cap) L) (k : Nat) (hk : k ≤ L.length) : OwnD w base (.slice (some ⟨g, 0, none⟩) k cap) (L.take k) := by
  rcases h.2 with ⟨h2, _⟩ | ⟨g', cap', cur, hv, hg, hh, hnc, hcm, hs, ht⟩
  · cases h2
  · injection hv with e1 e2 e3
    injection e1 with e1
    injection e1 with e1
    subst e1; subst e2; subst e3
    have hkl : (L.take k).length = k := by rw [List.length_take]; omega
    refine ⟨dvs_length _, .inr ⟨g, cap, cur, by rw [hkl], hg, hh, by rw [hkl]; omega, hcm, hs, ?_⟩⟩
    rw [hkl, ← dvs_take, ← ht, List.take_take, show min (k * 2) (L.length * 2) = k * 2 by omega]
theorem OwnD.there {w : World} {base g cap n : Nat} {L : List Dt} (h : OwnD w base (.slice (some ⟨g, 0, none⟩) n cap) L) (i : Nat) (hi : i < L.length) : w.there g (i * 2) 2 := by
  rcases h.2 with ⟨h2, _⟩ | ⟨g', cap', cur, hv, hg, hh, hnc, hcm, hs, ht⟩
  · cases h2
  · injection hv with e1 e2 e3
    injection e1 with e1
    injection e1 with e1
    subst e1; subst e2; subst e3
    have hB : Blk w g 35 cur := hh
    intro j hj
    exact ⟨by rw [hB.cell, Array.getElem?_eq_getElem (by omega)]; rfl, hB.frozen _⟩
theorem OwnD.thereAll {w : World} {base g cap n : Nat} {L : List Dt} (h : OwnD w base (.slice (some ⟨g, 0, none⟩) n cap) L) (j : Nat) (hj : j < L.length * 2) : (w.cell? ⟨g, j, none⟩).isSome = true ∧ w.frozen? ⟨g, j, none⟩ = false := by
  rcases h.2 with ⟨h2, _⟩ | ⟨g', cap', cur, hv, hg, hh, hnc, hcm, hs, ht⟩
  · cases h2
  · injection hv with e1 e2 e3
    injection e1 with e1
    injection e1 with e1
    subst e1; subst e2; subst e3
    have hB : Blk w g 35 cur := hh
    exact ⟨by rw [hB.cell, Array.getElem?_eq_getElem (by omega)]; rfl, hB.frozen _⟩
def zds (n : Nat) : List Value := dvs (List.replicate n ((0 : Int), 0))
theorem zero_list (n : Nat) : (Builtin.zeroCells (Value.agg #[.int .i64 0, .int .u64 0]).cells n).toList = zds n := by
  unfold Builtin.zeroCells zds
  apply List.ext_getElem?
  intro j
  rw [Array.toList_map, Array.toList_range, List.getElem?_map]
  have hsz : (Value.agg #[.int .i64 0, .int .u64 0]).cells.size = 2 := rfl
  rw [hsz]
  by_cases hj : j < n * 2
  · rw [List.getElem?_range hj]
    obtain ⟨k, hk | hk⟩ : ∃ k, j = k * 2 ∨ j = k * 2 + 1 := ⟨j / 2, by omega⟩
    · subst hk
      have := (dvs_get (List.replicate n ((0 : Int), 0)) k (by rw [List.length_replicate]; omega)).1
      rw [this, Option.map_some, Nat.mul_mod_left]
      simp; rfl
    · subst hk
      have := (dvs_get (List.replicate n ((0 : Int), 0)) k (by rw [List.length_replicate]; omega)).2
      rw [this, Option.map_some, show (k * 2 + 1) % 2 = 1 by omega]
      simp; rfl
  · rw [List.getElem?_eq_none (by rw [List.length_range]; omega), List.getElem?_eq_none (by rw [dvs_length, List.length_replicate]; omega)]
    rfl
theorem run_clear_dots {P : Program} (w : World) (t e ty : TypeId) (ht : P.underlying t = some (.slice e)) (hv : ∀ w, (zeroValue e).run P w = .ok (.agg #[.int .i64 0, .int .u64 0]) w) (b o n c : Nat) (hn : 0 < n)
    (hc : ∀ j, j < n * 2 → (w.cell? ⟨b, o + j, none⟩).isSome = true) (hf : ∀ j, j < n * 2 → w.frozen? ⟨b, o + j, none⟩ = false) :
    (Builtin.clear_ #[t] ty #[.slice (some ⟨b, o, none⟩) n c]).run P w = .ok (.tuple #[]) (w.setCells b o (zds n)) := by
  have hl : (zds n).length = n * 2 := by unfold zds; rw [dvs_length, List.length_replicate]
  have hst := run_storeCells_cells (P := P) b o (zds n) 0 w (by rw [hl]; simpa using hc) (by rw [hl]; simpa using hf) (dvs_one _)
  simp only [Nat.add_zero] at hst
  obtain ⟨m, rfl⟩ : ∃ m, n = m + 1 := ⟨n - 1, by omega⟩
  simp only [Builtin.clear_, List.getElem?_toArray, List.getElem?_cons_zero, Sem.run_bind, run_underlying ht, Result.andThen_ok, hv, zero_list, hst, Sem.run_pure]

theorem zds_set {w : World} {base g cap n : Nat} {L : List Dt} (h : OwnD w base (.slice (some ⟨g, 0, none⟩) n cap) L) (k m : Nat) (hk : k + m = L.length) :
    OwnD (w.setCells g (k * 2) (zds m)) base (.slice (some ⟨g, 0, none⟩) k cap) (L.take k) := by
  rcases h.2 with ⟨h2, _⟩ | ⟨g', cap', cur, hv, hg, hh, hnc, hcm, hs, ht⟩
  · cases h2
  · injection hv with e1 e2 e3
    injection e1 with e1
    injection e1 with e1
    subst e1; subst e2; subst e3
    have hB : Blk w g 35 cur := hh
    have hz : (zds m).length = m * 2 := by unfold zds; rw [dvs_length, List.length_replicate]
    have hB2 := hB.lay_ (k * 2) (zds m) (by rw [hz]; omega)
    have hkl : (L.take k).length = k := by rw [List.length_take]; omega
    have hcl : cur.toList.length = cap * 2 := by rw [Array.length_toList, hs]
    refine ⟨dvs_length _, .inr ⟨g, cap, _, by rw [hkl], hg, hB2, by rw [hkl]; omega, hcm, ?_, ?_⟩⟩
    · rw [List.size_toArray, lay_length (by rw [hz]; omega), hcl]
    · rw [hkl, ← dvs_take, ← ht, List.take_take, show min (k * 2) (L.length * 2) = k * 2 by omega]
      show (lay cur.toList (k * 2) (zds m)).take (k * 2) = _
      unfold lay
      rw [List.append_assoc, List.take_append_of_le_length (by rw [List.length_take]; omega), List.take_take, Nat.min_self]

theorem grown_drewN (w : World) (n : Nat) (row : Option Nat) : w.grownBy (w.drewN n) row := ⟨rfl, rfl, rfl, Nat.le_refl _, fun _ _ _ => rfl⟩
theorem grown_then {a b c : World} {row : Option Nat} (h : a.grownBy b row) (k : b.grownBy c row) : a.grownBy c row :=
  ⟨k.os.trans h.os, k.tape.trans h.tape, k.output.trans h.output, Nat.le_trans h.size k.size, fun i hi hn => (k.block i (Nat.lt_of_lt_of_le hi h.size) hn).trans (h.block i hi hn)⟩

set_option maxHeartbeats 4000000 in
theorem uniq_any (v : Value) (L : List Dt) (base : Nat) (w : World) (ho : OwnD w base v L) (hl : L.length ≤ 100000) (hs : Ord L) :
    Calls Try.prog 51 #[v] w fun e w' => ∃ v' M, e = .returned v' ∧ OwnD w' base v' M ∧ Rise M ∧ (∀ d, d ∈ M ↔ d ∈ L) ∧ M.length ≤ L.length ∧ w.grownBy w' v.ownBlock := by
  have hfo : Try.prog.follows .mixedOrders = true := by kernel_rfl
  have hde : ∀ (x y : Dt) (w : World), (Op.equalIn 10000 35 (.agg #[.int .i64 x.1, .int .u64 (x.2 : Int)]) (.agg #[.int .i64 y.1, .int .u64 (y.2 : Int)])).run Try.prog w = .ok (decide (x = y)) w := dot_eq
  have HDE := Lib.hid hde
  clear hde
  have HS := Lib.hid hs
  have HO := Lib.hid ho
  have hsd := ho.sd
  obtain ⟨A, c, rfl, hcc, ha⟩ := ho.sd
  clear hs
  by_cases h2 : L.length < 2
  · have h2i : (L.length : Int) < 2 := by omega
    have hu := uq_all HS.out (Nat.le_refl _) (fun j h1 h3 h4 => absurd h4 (by omega))
    rw [List.take_length] at hu
    have HU := Lib.hid hu
    clear hu ha ho hsd h2
    go_enter Try.func51, Try.ntmps51
    go_wp2
    go_ret
    exact ⟨_, L, rfl, HO.out, HU.out.rise, fun d => Iff.rfl, Nat.le_refl _, World.grownBy.refl _ _⟩
  · obtain ⟨g, rfl⟩ : ∃ g, A = some ⟨g, 0, none⟩ := by
      rcases ho.2 with ⟨h0, h1⟩ | ⟨g, cap, cur, hv, _⟩
      · omega
      · injection hv with e1 _ _
        exact ⟨g, e1⟩
    clear ha ho
    have h2i : ¬ (L.length : Int) < 2 := by omega
    go_enter Try.func51, Try.ntmps51
    go_wp2
    go_loopw [3] (fun z wr => ∃ k : Nat, z = .int .i64 (k : Int) ∧ 1 ≤ k ∧ k ≤ L.length ∧ (∃ n, wr = w.drewN n) ∧ ∀ j (h1 : j < L.length), 1 ≤ j → j < k → L[j] ≠ L[j - 1]) (fun z _ => L.length - (intOf z).toNat)
    case atStart => exact ⟨1, rfl, Nat.le_refl _, by omega, ⟨0, rfl⟩, fun j h1 h2 h3 => absurd h3 (by omega)⟩
    case round =>
      obtain ⟨k, rfl, hk1, hk, ⟨n, rfl⟩, hall⟩ := hrel
      have HA := Lib.hid hall
      clear hall
      by_cases hlt : k < L.length
      · obtain ⟨x, hx⟩ : ∃ x, L[k] = x := ⟨_, rfl⟩
        obtain ⟨y, hy⟩ : ∃ y, L[k - 1]'(by omega) = y := ⟨_, rfl⟩
        obtain ⟨b, o, e0, k0, k1⟩ := hsd.at_ k hlt x hx
        injection e0 with e0
        injection e0 with e1 e2
        subst e1; subst e2
        obtain ⟨b', o', e0, k2, k3⟩ := hsd.at_ (k - 1) (by omega) y hy
        injection e0 with e0
        injection e0 with e1 e2
        subst e1; subst e2
        have HX := Lib.hid hx
        have HY := Lib.hid hy
        have hde1 := HDE.out x y
        have hk1i : (1 : Int) ≤ (k : Int) := by omega
        have hlti : (k : Int) < (L.length : Int) := by omega
        have hkm : ((k - 1 : Nat) : Int) = (k : Int) - 1 := by omega
        have HLT := Lib.hid hlt
        clear hx hy
        rw [Nat.zero_add] at k0 k1 k2 k3
        by_cases hd : x = y
        · rw [decide_eq_true hd] at hde1
          have HD := Lib.hid hd
          clear hd
          go_wp2_with fail
          go_quiet (fail)
          go_wp2_with fail
          have hst : Uq L (k + 1) (L.take k) := (uq_all HS.out hk HA.out).skip HLT.out (by omega) (by rw [HX.out, HY.out]; exact HD.out)
          have hlk : (L.take k).length = k := by rw [List.length_take]; omega
          have ho0 : OwnD (w.drewN (n + nq)) base (.slice (some ⟨g, 0, none⟩) L.length c) (L.take k ++ L.drop (L.take k).length) := by rw [hlk, List.take_append_drop]; exact HO.out.drewN _
          have HST := Lib.hid hst
          clear k0 k1 k2 k3 hst
          rename World => wold
          go_loopw [3, 5] (fun z3 z5 wq => ∃ (P : List Dt) (m : Nat), z3 = .int .i64 (P.length : Int) ∧ z5 = .int .i64 (m : Int) ∧ 1 ≤ m ∧ k + m ≤ L.length ∧ Uq L (k + m) P ∧ P.length < k + m ∧ OwnD wq base (.slice (some ⟨g, 0, none⟩) L.length c) (P ++ L.drop P.length) ∧ wold.grownBy wq (some g)) (fun _ z5 _ => L.length - (intOf z5).toNat)
          case atStart =>
            exact ⟨L.take k, 1, by rw [hlk], rfl, Nat.le_refl _, by omega, HST.out, by omega, ho0, ⟨rfl, rfl, rfl, Nat.le_refl _, fun _ _ _ => rfl⟩⟩
          case round =>
            clear ho0
            obtain ⟨P, m, rfl, rfl, hm1, hm, hU, hPl, ho, hg⟩ := hrel
            have HU := Lib.hid hU
            have HQ := Lib.hid ho
            have HG := Lib.hid hg
            have hPL : (P ++ L.drop P.length).length = L.length := by rw [List.length_append, List.length_drop]; omega
            clear hU hg
            by_cases hlt2 : k + m < L.length
            · obtain ⟨u, hu⟩ : ∃ u, L[k + m] = u := ⟨_, rfl⟩
              obtain ⟨v, hv⟩ : ∃ v, L[k + m - 1]'(by omega) = v := ⟨_, rfl⟩
              have eu : (P ++ L.drop P.length)[k + m]'(by omega) = u := by
                rw [List.getElem_append_right (by omega), List.getElem_drop, ← hu]; congr 1; omega
              have ev : (P ++ L.drop P.length)[k + m - 1]'(by omega) = v := by
                rw [List.getElem_append_right (by omega), List.getElem_drop, ← hv]; congr 1; omega
              have hsd2 := ho.sd
              rw [show L.length = (P ++ L.drop P.length).length from hPL.symm] at hsd2
              obtain ⟨b, o, e0, k0, k1⟩ := hsd2.at_ (k + m) (by omega) u eu
              injection e0 with e0
              injection e0 with e1 e2
              subst e1; subst e2
              obtain ⟨b', o', e0, k2, k3⟩ := hsd2.at_ (k + m - 1) (by omega) v ev
              injection e0 with e0
              injection e0 with e1 e2
              subst e1; subst e2
              have HUu := Lib.hid hu
              have HV := Lib.hid hv
              have hde2 := HDE.out u v
              have hm1i : (1 : Int) ≤ (m : Int) := by omega
              have hlti2 : (m : Int) < ((L.length - k : Nat) : Int) := by omega
              have hkm2 : ((m - 1 : Nat) : Int) = (m : Int) - 1 := by omega
              have HLT2 := Lib.hid hlt2
              rw [show 0 + (k + m) * 2 = k * 2 + m * 2 by omega] at k0 k1
              rw [show 0 + (k + m - 1) * 2 = k * 2 + (m - 1) * 2 by omega] at k2 k3
              clear hu hv eu ev hsd2 ho hde1
              by_cases hd : u = v
              · rw [decide_eq_true hd] at hde2
                have HD2 := Lib.hid hd
                clear hd
                go_wp2_with fail
                go_quiet (fail)
                go_wp2
                refine ⟨⟨P, m + 1, rfl, by go_num, by omega, by have := HLT2.out; omega, HU.out.skip HLT2.out (by omega) (by rw [HUu.out, HV.out]; exact HD2.out), by omega, HQ.out.drewN _, grown_then HG.out (grown_drewN _ _ _)⟩, by have := HLT2.out; simp [intOf]; omega⟩
              · rw [decide_eq_false hd] at hde2
                have HD2 := Lib.hid hd
                clear hd
                go_wp2_with fail
                go_quiet (fail)
                have hth := HQ.out.there P.length (by omega)
                obtain ⟨z, hz⟩ : ∃ z, (P ++ L.drop P.length)[P.length]'(by omega) = z := ⟨_, rfl⟩
                have hsd3 := HQ.out.sd
                rw [show L.length = (P ++ L.drop P.length).length from hPL.symm] at hsd3
                obtain ⟨b, o, e0, k4, k5⟩ := hsd3.at_ P.length (by omega) z hz
                injection e0 with e0
                injection e0 with e1 e2
                subst e1; subst e2
                rw [Nat.zero_add] at k4 k5
                have f4 : wr.frozen? ⟨g, P.length * 2, none⟩ = false := (hth 0 (by omega)).2
                have f5 : wr.frozen? ⟨g, P.length * 2 + 1, none⟩ = false := (hth 1 (by omega)).2
                clear hth hsd3 hz
                have hPi : (P.length : Int) < (L.length : Int) := by omega
                go_wp2
                have hset := (HQ.out.drewN nq).set P.length (by omega) u
                have e1 : (P ++ L.drop P.length).set P.length u = (P ++ [u]) ++ L.drop (P ++ [u]).length := by
                  rw [List.set_append_right _ _ (Nat.le_refl _), Nat.sub_self, List.drop_eq_getElem_cons (show P.length < L.length by omega), List.set_cons_zero, List.append_assoc, List.length_append]
                  rfl
                rw [e1] at hset
                have hk2 := HU.out.keep HS.out HLT2.out (by omega) (by rw [HUu.out, HV.out]; exact HD2.out)
                rw [HUu.out] at hk2
                refine ⟨⟨P ++ [u], m + 1, by rw [List.length_append]; go_num, by go_num, by omega, by have := HLT2.out; omega, hk2, by rw [List.length_append]; simp; omega, hset, grown_then HG.out (grown_then (grown_drewN _ nq _) (grown_then (grown_setCell _ g _ _) (grown_setCell _ g _ _)))⟩, by have := HLT2.out; simp [intOf]; omega⟩
            · have hend : k + m = L.length := by omega
              have hn0 : 0 < L.length - P.length := by omega
              have hnlt : ¬ ((m : Int) < ((L.length - k : Nat) : Int)) := by omega
              have hth := ho.thereAll
              rw [hPL] at hth
              have hcl : ∀ ty, (Builtin.clear_ #[22] ty #[.slice (some ⟨g, P.length * 2, none⟩) (L.length - P.length) (c - P.length)]).run Try.prog wr = .ok (.tuple #[]) (wr.setCells g (P.length * 2) (zds (L.length - P.length))) :=
                fun ty => run_clear_dots wr _ _ ty Try.underlying22 Try.zeroValue35 g (P.length * 2) _ _ hn0 (fun j hj => (hth _ (by omega)).1) (fun j hj => (hth _ (by omega)).2)
              have hPi : ¬ ((L.length : Int) < (P.length : Int)) := by omega
              have hPc : ¬ ((c : Int) < (P.length : Int)) := by omega
              clear hth hlt2 ho
              go_wp2
              go_ret
              have hz := zds_set HQ.out P.length (L.length - P.length) (by omega)
              rw [List.take_left' rfl] at hz
              refine ⟨_, rfl, P, hz, HU.out.rise, fun d b => by rw [HU.out.mem, hend, List.take_length], by omega, grown_then HG.out (grown_setCells g _ _ _)⟩
        · rw [decide_eq_false hd] at hde1
          have HD := Lib.hid hd
          clear hd
          go_wp2_with fail
          go_quiet (fail)
          go_wp2
          refine ⟨⟨k + 1, by go_num, by omega, HLT.out, ⟨_, by first | rfl | rw [World.drewN_drewN]⟩, fun j h1 h2 h3 => ?_⟩, by have := HLT.out; simp [intOf]; omega⟩
          rcases Nat.lt_or_ge j k with h | h
          · exact HA.out j h1 h2 h
          · obtain rfl : j = k := by omega
            rw [HX.out, HY.out]; exact HD.out
      · obtain rfl : k = L.length := by omega
        have hu := uq_all HS.out (Nat.le_refl _) HA.out
        rw [List.take_length] at hu
        have HU := Lib.hid hu
        clear hu
        go_wp2
        go_ret
        exact ⟨_, L, rfl, HO.out.drewN _, HU.out.rise, fun d => Iff.rfl, Nat.le_refl _, grown_drewN _ _ _⟩
end Go.Proofs.Ytoglhpcboonpeaa

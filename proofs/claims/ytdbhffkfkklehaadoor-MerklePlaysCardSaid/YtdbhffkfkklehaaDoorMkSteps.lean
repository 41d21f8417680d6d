/-
  Steps in memory, opened; the walk of the law's much.
-/
import Derived.Test.YtdbhffkfkklehaaDoorRow
import Derived.Test.YtdbhffkfkklehaaDoorMkMemA
import Derived.Deep.Slices
import Derived.Deep.SlicePairs
namespace Go.Proofs.YtdbhffkfkklehaaDoor
open Go.ChangeShapes Go.WideShapes Go.ChangeAt Go.RowKit Go.Deep
set_option linter.unusedVariables false
set_option linter.unusedSimpArgs false
set_option maxRecDepth 100000

/-- A step: the bucket, the bytes' slice, the bytes. -/
structure MSt where
  n : Int
  bv : Value
  b : List UInt8
instance : Inhabited MSt := ⟨⟨0, .slice none 0 0, []⟩⟩
/-- What is known of a step in memory. -/
def MAt (w : World) (b o : Nat) (s : MSt) : Prop :=
  w.cell? ⟨b, o, none⟩ = some (.int .i64 s.n) ∧ w.cell? ⟨b, o + 1, none⟩ = some s.bv ∧ Sl w s.bv s.b ∧ -9223372036854775808 ≤ s.n ∧ s.n ≤ 9223372036854775807
theorem MAt.below {w w' : World} {b o : Nat} {s : MSt} (h : MAt w b o s) (hb : Below w.heap.size w w') : MAt w' b o s :=
  ⟨(hb.cell (World.block_lt_of_cell? w _ h.1)).trans h.1, (hb.cell (World.block_lt_of_cell? w _ h.2.1)).trans h.2.1, h.2.2.1.below hb, h.2.2.2⟩
/-- A list of steps. -/
def Mts (w : World) (v : Value) (L : List MSt) : Prop :=
  ∃ A c, v = .slice A L.length c ∧ L.length ≤ c ∧ (0 < L.length → ∃ b o, A = some ⟨b, o, none⟩ ∧ ∀ j (h : j < L.length), MAt w b (o + j * 2) L[j])
theorem Mts.below {w w' : World} {v : Value} {L : List MSt} (h : Mts w v L) (hb : Below w.heap.size w w') : Mts w' v L := by
  obtain ⟨A, c, rfl, hc, ha⟩ := h
  refine ⟨A, c, rfl, hc, fun h0 => ?_⟩
  obtain ⟨b, o, e, hx⟩ := ha h0
  exact ⟨b, o, e, fun j hj => (hx j hj).below hb⟩
/-- Few steps, and small ones. -/
def Few (L : List MSt) : Prop := L.length ≤ 40 ∧ ∀ s ∈ L, s.b.length ≤ 9000

section
variable {H : Type} {enc : TypeId × Value → H}
theorem open_steps {W : World} {base : Nat} {v : Value} {d : DataW H} {ps : List MemPlace} (hv : Value.okWide Tryd.prog W .any base 22 v) (h : DataW.Trod enc Tryd.prog W 0 (fun _ => true) true 22 v d ps) :
    ∃ L : List MSt, Mts W v L := by
  obtain ⟨a0, len, cap, rfl⟩ := okWide_slice Tryd.underlying22 hv
  obtain ⟨fuel, hf⟩ := h
  rcases open_slice_pairs Tryd.underlying22 Tryd.underlying47 (by kernel_rfl) rfl rfl (by kernel_rfl) (by kernel_rfl) hf with ⟨hcs, hx⟩ | ⟨a, len', cap', m, n, V0, V1, D0, D1, P0, P1, hcs, _, hl, hm, hmm, hx, hall⟩
  · simp [Value.cells] at hcs
    obtain ⟨rfl, rfl, rfl⟩ := hcs
    exact ⟨[], none, 0, rfl, Nat.le_refl _, fun h => absurd h (by simp)⟩
  · simp [Value.cells] at hcs
    obtain ⟨rfl, rfl, rfl⟩ := hcs
    simp only [if_true] at hmm
    subst hmm
    have each : ∀ i, i < m → ∃ q : MSt, V0 i = .int .i64 q.n ∧ V1 i = q.bv ∧ Sl W q.bv q.b ∧ -9223372036854775808 ≤ q.n ∧ q.n ≤ 9223372036854775807 := by
      intro i hi
      obtain ⟨_, _, t0, t1⟩ := hall i hi
      obtain ⟨n0, e0, _, w0⟩ := DataW.trod_int Tryd.underlying3 t0
      obtain ⟨l, hs⟩ := open_bytes_cells t1
      injection e0 with e0 _
      have hb := bounds_i64 w0
      exact ⟨⟨n0, V1 i, l⟩, e0, rfl, hs, hb.1, by have := hb.2; omega⟩
    obtain ⟨q, hq⟩ := choose_lt each
    have hll : ((List.range len).map q).length = len := by simp
    refine ⟨(List.range len).map q, some a, m, by rw [hll], by rw [hll]; exact hl, fun hn => ?_⟩
    rw [hll] at hn
    obtain ⟨b, off, spot⟩ := a
    have hspot : spot = none := by simpa [Addr.add] using World.cell?_spot (hall 0 (by omega)).1
    subst hspot
    refine ⟨b, off, rfl, fun j hj => ?_⟩
    rw [hll] at hj
    have c0 := (hall j (by omega)).1
    have c1 := (hall j (by omega)).2.1
    rw [add_plain] at c0 c1
    obtain ⟨q0, q1, q2, q3⟩ := hq j (by omega)
    rw [q0] at c0
    rw [q1] at c1
    refine ⟨by simpa using c0, by simpa [Nat.add_assoc] using c1, by simpa using q2, by simpa using q3⟩
end

/-- What much answers. -/
def MuchEnd (L : List MSt) (w : World) (e : Ending) (w' : World) : Prop := ∃ r, e = .returned (.bool r) ∧ Below w.heap.size w w' ∧ (r = false → Few L)
set_option maxHeartbeats 4000000 in
theorem much_any (v : Value) (L : List MSt) (w : World) (hs : Mts w v L) :
    Calls Tryd.prog 7 #[v] w (MuchEnd L w) := by
  obtain ⟨A, c, rfl, hc, ha⟩ := hs
  have Ha := Lib.hid ha
  clear ha
  go_enter Tryd.func7, Tryd.ntmps7
  go_wp2
  go_loop [3, 4] (fun x z => ∃ (N i : Nat), x = .int .i64 (N : Int) ∧ z = .int .i64 (i : Int) ∧ i ≤ L.length ∧ i ≤ 41 ∧ N ≤ 9001 * i ∧ (N ≤ 9000 → ∀ j (h : j < L.length), j < i → L[j].b.length ≤ 9000)) (fun _ z => L.length - (intOf z).toNat)
  case atStart => exact ⟨0, 0, rfl, rfl, Nat.zero_le _, by decide, Nat.zero_le _, fun _ j _ h => absurd h (by omega)⟩
  case round =>
    obtain ⟨N, i, rfl, rfl, hi, hi41, hN, hall⟩ := hrel
    have HA := Lib.hid hall
    have HL40 := Lib.hid (show i ≤ 41 from hi41)
    clear hall
    by_cases hlt : i < L.length ∧ i ≤ 40
    · obtain ⟨hlt, hle⟩ := hlt
      obtain ⟨b, o, rfl, hx⟩ := Ha.out (by omega)
      obtain ⟨h0, h1, h2, _, _⟩ := hx i hlt
      obtain ⟨A2, c2, e2, _⟩ := h2
      rw [e2] at h1
      obtain ⟨lb, hlb⟩ : ∃ lb, L[i].b.length = lb := ⟨_, rfl⟩
      rw [hlb] at h1
      have HLB := Lib.hid hlb
      clear hlb hx h0 e2
      have hi1 : (i : Int) < (L.length : Int) := by omega
      have hi2 : (i : Int) ≤ 40 := by omega
      by_cases hm : lb ≤ 9001
      · have hm' : (lb : Int) ≤ 9001 := by omega
        go_wp2
        go_round
        case rel => exact ⟨N + lb, i + 1, by go_num, by go_num, by omega, by omega, by omega, fun hn j hj hji => by
          rcases Nat.lt_or_ge j i with h | h
          · exact HA.out (by omega) j hj h
          · obtain rfl : j = i := by omega
            rw [HLB.out]; omega⟩
        case measure => simp [intOf]; omega
      · have hm' : ¬ (lb : Int) ≤ 9001 := by omega
        go_wp2
        go_round
        case rel => exact ⟨N + 9001, i + 1, by go_num, by go_num, by omega, by omega, by omega, fun hn j hj hji => by omega⟩
        case measure => simp [intOf]; omega
    · have HF := Lib.hid (show N ≤ 9000 → L.length ≤ 40 → Few L from fun hn h40 => by
        have hL : L.length ≤ i := by omega
        exact ⟨h40, fun s hs => by
          obtain ⟨j, hj, rfl⟩ := List.getElem_of_mem hs
          exact HA.out hn j hj (by omega)⟩)
      have hend : ¬ (i : Int) < (L.length : Int) ∨ ((i : Int) < (L.length : Int) ∧ ¬ (i : Int) ≤ 40) := by omega
      have h9 : (9000 : Int) < (N : Int) ∨ (¬ (9000 : Int) < (N : Int) ∧ (40 : Int) < (L.length : Int)) ∨ (¬ (9000 : Int) < (N : Int) ∧ ¬ (40 : Int) < (L.length : Int)) := by omega
      clear hlt hi hi41 hN
      rcases hend with he | ⟨he1, he2⟩
      all_goals rcases h9 with h9 | ⟨h9, h40⟩ | ⟨h9, h40⟩
      all_goals go_wp2
      all_goals go_ret
      all_goals refine ⟨_, rfl, Below.refl _ _, fun hr => ?_⟩
      all_goals first | exact HF.out (by omega) (by omega) | (exfalso; revert hr; simp; try omega)
end Go.Proofs.YtdbhffkfkklehaaDoor

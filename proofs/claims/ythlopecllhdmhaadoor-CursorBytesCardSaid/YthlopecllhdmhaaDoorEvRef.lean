/-
  The document's MayName, MayVector, Much.
-/
import Derived.Test.YthlopecllhdmhaaDoorEvMay
namespace Go.Proofs.YthlopecllhdmhaaDoor
open Go.RowKit
open CtxM
set_option linter.unusedVariables false
set_option linter.unusedSimpArgs false
set_option maxRecDepth 20000

theorem rmayName_any (s : ByteArray) (w : World) : Calls Tryd.prog 8 #[.string s] w fun e w' => e = .returned (.bool (nameB s)) ∧ w' = w := by
  go_enter Tryd.func8, Tryd.ntmps8
  by_cases h1 : (0 : Int) < (s.size : Int)
  · have E := Lib.hid (name_4 (s := s) (by omega))
    go_wp2
    go_ret
    exact ⟨ret_bool E.out, rfl⟩
  · have E := Lib.hid (name_1 (s := s) (by omega))
    go_wp2
    go_ret
    exact ⟨ret_bool E.out.symm, rfl⟩

set_option maxHeartbeats 1000000 in
theorem rmayVector_any (V : List Nat) (w : World) (hV : V.length = 16) : Calls Tryd.prog 23 #[.agg (uqs V)] w fun e w' => e = .returned (.bool (decide (∀ n ∈ V, n ≤ top))) ∧ Grw w w' := by
  have hB0 := Blk.new w 25 (uqs V)
  have hg0 : Grw w (w.alloc (.cells (uqs V) 25)) := (Grw.refl _).alloc _
  obtain ⟨pb, hpb⟩ : ∃ p, p = decide (∀ n ∈ V, n ≤ top) := ⟨_, rfl⟩
  rw [← hpb]
  have HP := Lib.hid hpb
  clear hpb
  go_enter Tryd.func23, Tryd.ntmps23
  go_wp2
  generalize w.alloc (.cells (uqs V) 25) = w1 at hB0 hg0 ⊢
  go_loopw [3] (fun x wr => ∃ i : Nat, x = .int .i64 (i : Int) ∧ i ≤ 16 ∧ (∀ j, j < i → V.getD j 0 ≤ top) ∧ wr = w1) (fun x _ => 16 - (intOf x).toNat)
  case atStart => exact ⟨0, rfl, Nat.zero_le _, fun j h => absurd h (by omega), rfl⟩
  case round =>
    obtain ⟨i, rfl, hi, hok, rfl⟩ := hrel
    have HO := Lib.hid hok
    clear hok
    by_cases hlt : i < 16
    · have hc : wr.cell? ⟨w.heap.size, i, none⟩ = some (.int .u64 (V.getD i 0 : Int)) := by rw [hB0.cell]; exact uqs_get V i (by omega)
      obtain ⟨m, hm⟩ : ∃ m, m = V.getD i 0 := ⟨_, rfl⟩
      rw [← hm] at hc
      have HM := Lib.hid hm
      have HLT := Lib.hid hlt
      have HV := Lib.hid hV
      clear hm hV
      by_cases hle : (m : Int) ≤ 4611686018427387904
      · go_wp2
        refine ⟨⟨i + 1, by go_num, HLT.out, fun j hj => ?_, trivial⟩, by simp [intOf]; have := HLT.out; omega⟩
        rcases Nat.lt_or_ge j i with h | h
        · exact HO.out j h
        · obtain rfl : j = i := by omega
          rw [← HM.out]; unfold top; omega
      · go_wp2
        go_ret
        refine ⟨ret_bool ?_, hg0⟩
        rw [HP.out, eq_comm, decide_eq_false_iff_not]
        intro h
        have h2 := h (V.getD i 0) (by rw [List.getD_eq_getElem?_getD, List.getElem?_eq_getElem (by have := HV.out; have := HLT.out; omega)]; exact List.getElem_mem _)
        rw [← HM.out] at h2; unfold top at h2; omega
    · obtain rfl : i = 16 := by omega
      have HV := Lib.hid hV
      clear hV
      go_wp2
      go_ret
      refine ⟨ret_bool ?_, hg0⟩
      rw [HP.out, eq_comm, decide_eq_true_iff]
      intro n hn
      obtain ⟨j, hj, rfl⟩ := List.getElem_of_mem hn
      have := HO.out j (by have := HV.out; omega)
      rwa [List.getD_eq_getElem?_getD, List.getElem?_eq_getElem hj] at this

/-- How many bytes the first i devices have. -/
def devs (T : List De) (i : Nat) : Nat := ((T.take i).map (·.2.size)).sum
theorem devs_next (T : List De) (i : Nat) (h : i < T.length) : devs T (i + 1) = devs T i + T[i].2.size := by
  unfold devs
  rw [List.take_succ_eq_append_getElem h, List.map_append, List.sum_append]; simp
/-- No more than is gone through. -/
structure Few (x : Ev) : Prop where
  topic : x.topic.size ≤ 300
  pay : x.P.length ≤ 3000
  to : x.T.length ≤ 3000
  dev : devs x.T x.T.length ≤ 200000
def MuchEnd (x : Ev) (w : World) (e : Ending) (w' : World) : Prop := ∃ b, e = .returned (.bool b) ∧ Grw w w' ∧ (b = false → Few x)

end Go.Proofs.YthlopecllhdmhaaDoor

/-
  The document's MayName, MayVector, Much.
-/
import Derived.Test.YtigepbklpiilpaaEvMay
namespace Go.Proofs.Ytigepbklpiilpaa
open Go.RowKit
open CtxM
set_option linter.unusedVariables false
set_option linter.unusedSimpArgs false
set_option maxRecDepth 20000

theorem rmayName_any (s : ByteArray) (w : World) : Calls Try.prog 21 #[.string s] w fun e w' => e = .returned (.bool (nameB s)) ∧ w' = w := by
  go_enter Try.func21, Try.ntmps21
  by_cases h1 : (0 : Int) < (s.size : Int)
  · have E := Lib.hid (name_4 (s := s) (by omega))
    go_wp2
    go_ret
    exact ⟨ret_bool E.out, rfl⟩
  · have E := Lib.hid (name_1 (s := s) (by omega))
    go_wp2
    go_ret
    exact ⟨ret_bool E.out.symm, rfl⟩

set_option maxHeartbeats 1000000 in
theorem rmayVector_any (V : List Nat) (w : World) (hV : V.length = 16) : Calls Try.prog 22 #[.agg (uqs V)] w fun e w' => e = .returned (.bool (decide (∀ n ∈ V, n ≤ top))) ∧ Grw w w' := by
  have hB0 := Blk.new w 27 (uqs V)
  have hg0 : Grw w (w.alloc (.cells (uqs V) 27)) := (Grw.refl _).alloc _
  obtain ⟨pb, hpb⟩ : ∃ p, p = decide (∀ n ∈ V, n ≤ top) := ⟨_, rfl⟩
  rw [← hpb]
  have HP := Lib.hid hpb
  clear hpb
  go_enter Try.func22, Try.ntmps22
  go_wp2
  generalize w.alloc (.cells (uqs V) 27) = w1 at hB0 hg0 ⊢
  go_loopw [3] (fun x wr => ∃ i : Nat, x = .int .i64 (i : Int) ∧ i ≤ 16 ∧ (∀ j, j < i → V.getD j 0 ≤ top) ∧ wr = w1) (fun x _ => 16 - (intOf x).toNat)
  case atStart => exact ⟨0, rfl, Nat.zero_le _, fun j h => absurd h (by omega), rfl⟩
  case round =>
    obtain ⟨i, rfl, hi, hok, rfl⟩ := hrel
    have HO := Lib.hid hok
    clear hok
    by_cases hlt : i < 16
    · have hc : wr.cell? ⟨w.heap.size, i, none⟩ = some (.int .u64 (V.getD i 0 : Int)) := by rw [hB0.cell]; exact uqs_get V i (by omega)
      obtain ⟨m, hm⟩ : ∃ m, m = V.getD i 0 := ⟨_, rfl⟩
      rw [← hm] at hc
      have HM := Lib.hid hm
      have HLT := Lib.hid hlt
      have HV := Lib.hid hV
      clear hm hV
      by_cases hle : (m : Int) ≤ 4611686018427387904
      · go_wp2
        refine ⟨⟨i + 1, by go_num, HLT.out, fun j hj => ?_, trivial⟩, by simp [intOf]; have := HLT.out; omega⟩
        rcases Nat.lt_or_ge j i with h | h
        · exact HO.out j h
        · obtain rfl : j = i := by omega
          rw [← HM.out]; unfold top; omega
      · go_wp2
        go_ret
        refine ⟨ret_bool ?_, hg0⟩
        rw [HP.out, eq_comm, decide_eq_false_iff_not]
        intro h
        have h2 := h (V.getD i 0) (by rw [List.getD_eq_getElem?_getD, List.getElem?_eq_getElem (by have := HV.out; have := HLT.out; omega)]; exact List.getElem_mem _)
        rw [← HM.out] at h2; unfold top at h2; omega
    · obtain rfl : i = 16 := by omega
      have HV := Lib.hid hV
      clear hV
      go_wp2
      go_ret
      refine ⟨ret_bool ?_, hg0⟩
      rw [HP.out, eq_comm, decide_eq_true_iff]
      intro n hn
      obtain ⟨j, hj, rfl⟩ := List.getElem_of_mem hn
      have := HO.out j (by have := HV.out; omega)
      rwa [List.getD_eq_getElem?_getD, List.getElem?_eq_getElem hj] at this

/-- How many bytes the first i devices have. -/
def devs (T : List De) (i : Nat) : Nat := ((T.take i).map (·.2.size)).sum
theorem devs_next (T : List De) (i : Nat) (h : i < T.length) : devs T (i + 1) = devs T i + T[i].2.size := by
  unfold devs
  rw [List.take_succ_eq_append_getElem h, List.map_append, List.sum_append]; simp
/-- No more than is gone through. -/
structure Few (x : Ev) : Prop where
  topic : x.topic.size ≤ 300
  pay : x.P.length ≤ 3000
  to : x.T.length ≤ 3000
  dev : devs x.T x.T.length ≤ 200000
def MuchEnd (x : Ev) (w : World) (e : Ending) (w' : World) : Prop := ∃ b, e = .returned (.bool b) ∧ Grw w w' ∧ (b = false → Few x)

set_option maxHeartbeats 2000000 in
theorem much_any (x : Ev) (w : World) (hx : EvOk w x) : Calls Try.prog 7 #[.agg (evc x)] w (MuchEnd x w) := by
  have hb0 : Grw w (w.alloc (.cells (evc x) 30)) := (Grw.refl _).alloc _
  have hB := Blk.new w 30 (evc x)
  have hX := hx.below hb0.below
  have hV := hx.len
  obtain ⟨Ap, cp, hpl, _⟩ := id hX.pl
  obtain ⟨At, ct, hto⟩ := hX.to.shape
  have HS := Lib.hid hX.to
  go_enter Try.func7, Try.ntmps7
  go_upto_region 1 with fail
  generalize w.alloc (.cells (evc x) 30) = w1 at hb0 hB HS ⊢
  have a2 := ev_2 hB
  have a3 := ev_3 hB
  have a4 := ev_20 hB hV
  rw [hpl] at a3
  rw [hto] at a4
  rw [hto] at HS
  clear hB hX hpl hto hx hV
  by_cases h1 : x.topic.size ≤ 300
  · have k1 : ¬ (300 : Int) < (x.topic.size : Int) := by omega
    by_cases h2 : x.P.length ≤ 3000
    · have k2 : ¬ (3000 : Int) < (x.P.length : Int) := by omega
      by_cases h3 : x.T.length ≤ 3000
      · have k3 : ¬ (3000 : Int) < (x.T.length : Int) := by omega
        go_wp2
        clear a2 a3 k1 k2 k3
        go_loopw [3, 4] (fun n y wr => ∃ i : Nat, n = .int .i64 (devs x.T i : Int) ∧ y = .int .i64 (i : Int) ∧ i ≤ x.T.length ∧ devs x.T i ≤ 200000 ∧ wr = w1) (fun _ y _ => x.T.length - (intOf y).toNat)
        case atStart => exact ⟨0, rfl, rfl, Nat.zero_le _, by simp [devs], rfl⟩
        case round =>
          obtain ⟨i, rfl, rfl, hi, hd, rfl⟩ := hrel
          have H1 := Lib.hid h1
          have H2 := Lib.hid h2
          by_cases hlt : i < x.T.length
          · obtain ⟨b, o, rfl, k0, k1, k2⟩ := HS.out.at_ i hlt
            have hn := devs_next x.T i hlt
            obtain ⟨s, hs⟩ : ∃ s, x.T[i].2 = s := ⟨_, rfl⟩
            rw [hs] at hn k2
            obtain ⟨d, hdd⟩ : ∃ d, devs x.T i = d := ⟨_, rfl⟩
            have HN := Lib.hid hn
            have HD := Lib.hid hdd
            rw [hdd] at hd ⊢
            clear hn hs k0 k1 hdd
            by_cases hsz : s.size ≤ 200000
            · have k5 : (s.size : Int) < 200001 := by omega
              by_cases htot : d + s.size ≤ 200000
              · have k6 : ¬ (200000 : Int) < (d : Int) + (s.size : Int) := by omega
                have HLT := Lib.hid hlt
                go_wp2
                have e2 := HN.out
                rw [HD.out] at e2
                refine ⟨⟨i + 1, by rw [e2]; go_num, by go_num, HLT.out, by omega, trivial⟩, by simp [intOf]; have := HLT.out; omega⟩
              · have k6 : (200000 : Int) < (d : Int) + (s.size : Int) := by omega
                go_wp2
                go_ret
                exact ⟨true, rfl, hb0, fun h => by cases h⟩
            · by_cases h8 : (200001 : Int) < (s.size : Int)
              · have k6 : (200000 : Int) < (d : Int) + 200001 := by omega
                clear hsz
                go_wp2
                go_ret
                exact ⟨true, rfl, hb0, fun h => by cases h⟩
              · have h9 : s.size = 200001 := by omega
                have k6 : (200000 : Int) < (d : Int) + (s.size : Int) := by omega
                have k9 : (s.size : Int) ≤ 200001 := by omega
                clear hsz h9
                go_wp2
                go_ret
                exact ⟨true, rfl, hb0, fun h => by cases h⟩
          · obtain rfl : i = x.T.length := by omega
            have H3 := Lib.hid h3
            have HD := Lib.hid hd
            clear h1 h2 h3 hd
            go_wp2
            go_ret
            exact ⟨false, rfl, hb0, fun _ => ⟨H1.out, H2.out, H3.out, HD.out⟩⟩
      · have k3 : (3000 : Int) < (x.T.length : Int) := by omega
        go_wp2
        go_ret
        exact ⟨true, rfl, hb0, fun h => by cases h⟩
    · have k2 : (3000 : Int) < (x.P.length : Int) := by omega
      go_wp2
      go_ret
      exact ⟨true, rfl, hb0, fun h => by cases h⟩
  · have k1 : (300 : Int) < (x.topic.size : Int) := by omega
    go_wp2
    go_ret
    exact ⟨true, rfl, hb0, fun h => by cases h⟩
end Go.Proofs.Ytigepbklpiilpaa

/-
  The law's nothing: what a disk that is not there answers, all at once.
-/
import Derived.Test.YtdbkhigocjmfoaaDskSameNo
namespace Go.Proofs.Ytdbkhigocjmfoaa
open Go.RowKit Go.Maps Go.Shelf
open DskM
set_option linter.unusedVariables false
set_option linter.unusedSimpArgs false
set_option maxRecDepth 100000

theorem num_any (n : Int) (w : World) : Calls Try.prog 8 #[.int .i64 n] w fun e w' => e = .returned (.int .i64 n) ∧ w' = w := by
  go_enter Try.func8, Try.ntmps8
  go_wp2
  go_ret
  exact ⟨rfl, rfl⟩
set_option maxHeartbeats 1000000 in
theorem crash_no {w : World} {P : Option Addr} (h : Nd w P) (A : Option Addr) (n c : Nat) : Calls Try.prog 20 #[.pointer P, .slice A n c] w fun e w' => e = .returned (.pointer none) ∧ Below w.heap.size w w' := by
  have hb0 : Below w.heap.size w ((w.alloc (.cells #[.pointer P] 23)).alloc (.cells #[.slice A n c] 39)) := ((Below.refl _ _).alloc (Nat.le_refl _) _).alloc (by simp) _
  have hn := none_no (h.below hb0)
  have HB := Lib.hid hb0
  have hB1 := (Blk.new w 23 #[.pointer P]).alloc (.cells #[.slice A n c] 39)
  have q0 : ((w.alloc (.cells #[.pointer P] 23)).alloc (.cells #[.slice A n c] 39)).cell? ⟨w.heap.size, 0, none⟩ = some (.pointer P) := by rw [hB1.cell]; rfl
  clear h hb0 hB1
  refine (callsIn_wide (n := 8)).1 ?_
  refine callsIn_of_wp_marks Try.func20 rfl trivial ?_ rfl
  simp only [Try.ntmps20, List.size_toArray, List.length_cons, List.length_nil, Nat.reduceAdd, Nat.reduceSub, Array.replicate_succ, Array.replicate_zero, List.push_toArray, List.append_toArray, List.nil_append, List.cons_append]
  refine wpIn_wide.2 ?_
  go_wp2_with fail
  refine hn.mono ?_
  rintro e w1 ⟨rfl, hw⟩
  rw [hw]
  clear hw
  go_wp2
  exact ⟨_, results_tmp rfl _ _ _, rfl, HB.out⟩

set_option maxHeartbeats 4000000 in
theorem nothing_law {w : World} {P : Option Addr} {q m : Nat} {S : Ds} {L : List Fo} (hP : Nd w P) (hD : Dk w q m S L) :
    Calls Try.prog 29 #[.pointer P, .pointer (some ⟨q, 0, none⟩)] w fun e w' => e = .returned (.bool true) ∧ Below w.heap.size w w' := by
  have HP := Lib.hid hP
  have HD := Lib.hid hD
  clear hP hD
  go_enter Try.func29, Try.ntmps29
  have HB := Lib.hid (Below.refl w.heap.size w)
  go_wp2_with fail
  refine (fuse_no (HP.out.below HB.out) 1).mono ?_
  rintro e wx ⟨rfl, hwx⟩
  rw [hwx]
  clear hwx wx
  go_wp2_with fail
  refine (read_no (HP.out.below HB.out) ⟨#[97]⟩).mono ?_
  rintro e wx ⟨rfl, hwx⟩
  rw [hwx]
  clear hwx wx
  go_wp2_with fail
  refine (lasts_no (HP.out.below HB.out) ⟨#[97]⟩).mono ?_
  rintro e wx ⟨rfl, hwx⟩
  rw [hwx]
  clear hwx wx
  have hb0 : Below w.heap.size w (w.alloc (.cells #[.slice none 0 0, .int .i64 0, .int .i64 0, .bool false, .int .i64 0] 33)) := (Below.refl _ _).alloc (Nat.le_refl _) _
  have hr := Blk.new w 33 #[.slice none 0 0, .int .i64 0, .int .i64 0, .bool false, .int .i64 0]
  have HB0 := Lib.hid hb0
  clear hb0
  go_wp2_with fail
  generalize w.alloc (.cells #[.slice none 0 0, .int .i64 0, .int .i64 0, .bool false, .int .i64 0] 33) = W0 at hr HB0 ⊢
  have HRB := Lib.hid hr
  replace HB := HB0
  have HZ := Lib.hid (Below.refl W0.heap.size W0)
  clear hr HB0
  go_wp2_with fail
  refine (append_no (HP.out.below HB.out) ⟨#[97]⟩ none 0 0).mono ?_
  rintro e w1 ⟨rfl, hbx⟩
  replace HB := Lib.hid (HB.out.trans (hbx.mono HB.out.size))
  replace HZ := Lib.hid (HZ.out.trans (hbx.mono HZ.out.size))
  clear hbx
  go_wp2_with fail
  refine (num_any 1 w1).mono ?_
  rintro e wx ⟨rfl, hwx⟩
  rw [hwx]
  clear hwx wx
  go_wp2_with fail
  refine (sync_no (HP.out.below HB.out) ⟨#[97]⟩).mono ?_
  rintro e w2 ⟨rfl, hbx⟩
  replace HB := Lib.hid (HB.out.trans (hbx.mono HB.out.size))
  replace HZ := Lib.hid (HZ.out.trans (hbx.mono HZ.out.size))
  clear hbx
  go_wp2_with fail
  refine (num_any 1 w2).mono ?_
  rintro e wx ⟨rfl, hwx⟩
  rw [hwx]
  clear hwx wx
  go_wp2_with fail
  refine (cut_no (HP.out.below HB.out) ⟨#[97]⟩ 0).mono ?_
  rintro e w3 ⟨rfl, hbx⟩
  replace HB := Lib.hid (HB.out.trans (hbx.mono HB.out.size))
  replace HZ := Lib.hid (HZ.out.trans (hbx.mono HZ.out.size))
  clear hbx
  go_wp2_with fail
  refine (num_any 1 w3).mono ?_
  rintro e wx ⟨rfl, hwx⟩
  rw [hwx]
  clear hwx wx
  go_wp2_with fail
  refine (rename_no (HP.out.below HB.out) ⟨#[97]⟩ ⟨#[98]⟩).mono ?_
  rintro e w4 ⟨rfl, hbx⟩
  replace HB := Lib.hid (HB.out.trans (hbx.mono HB.out.size))
  replace HZ := Lib.hid (HZ.out.trans (hbx.mono HZ.out.size))
  clear hbx
  go_wp2_with fail
  refine (num_any 1 w4).mono ?_
  rintro e wx ⟨rfl, hwx⟩
  rw [hwx]
  clear hwx wx
  go_wp2_with fail
  refine (remove_no (HP.out.below HB.out) ⟨#[]⟩).mono ?_
  rintro e w5 ⟨rfl, hbx⟩
  replace HB := Lib.hid (HB.out.trans (hbx.mono HB.out.size))
  replace HZ := Lib.hid (HZ.out.trans (hbx.mono HZ.out.size))
  clear hbx
  go_wp2_with fail
  refine (num_any 1 w5).mono ?_
  rintro e wx ⟨rfl, hwx⟩
  rw [hwx]
  clear hwx wx
  go_wp2_with fail
  refine (num_any 1 w5).mono ?_
  rintro e wx ⟨rfl, hwx⟩
  rw [hwx]
  clear hwx wx
  go_wp2_with fail
  refine (num_any 1 w5).mono ?_
  rintro e wx ⟨rfl, hwx⟩
  rw [hwx]
  clear hwx wx
  go_wp2_with fail
  refine (room_no (HP.out.below HB.out)).mono ?_
  rintro e wx ⟨rfl, hwx⟩
  rw [hwx]
  clear hwx wx
  go_wp2_with fail
  refine (dead_no (HP.out.below HB.out)).mono ?_
  rintro e wx ⟨rfl, hwx⟩
  rw [hwx]
  clear hwx wx
  go_wp2_with fail
  refine (writes_no (HP.out.below HB.out)).mono ?_
  rintro e wx ⟨rfl, hwx⟩
  rw [hwx]
  clear hwx wx
  go_wp2_with fail
  refine (once_any P w5 w.heap.size [] none 0 (by simp) 0 (HP.out.below HB.out).filesOk (by have e := (HRB.out.below HZ.out HRB.out.lt).cell 0; exact e) (fun k h => absurd h (by simp))).mono ?_
  rintro e w6 ⟨rfl, hbx⟩
  replace HB := Lib.hid (HB.out.trans (hbx.mono HB.out.size))
  replace HZ := Lib.hid (HZ.out.trans (hbx.mono HZ.out.size))
  clear hbx
  have hba : Below w6.heap.size w6 (w6.alloc (.cells #[.int .i64 1] 3)) := (Below.refl _ _).alloc (Nat.le_refl _) _
  replace HB := Lib.hid (HB.out.trans (hba.mono HB.out.size))
  clear hba
  go_wp2_with fail
  refine (crash_no (HP.out.below HB.out) (some ⟨w6.heap.size, 0, none⟩) 1 1).mono ?_
  rintro e w7 ⟨rfl, hbx⟩
  replace HB := Lib.hid (HB.out.trans (hbx.mono HB.out.size))
  clear hbx
  go_wp2_with fail
  refine (copy_no (HP.out.below HB.out)).mono ?_
  rintro e wx ⟨rfl, hwx⟩
  rw [hwx]
  clear hwx wx
  go_wp2_with fail
  refine (same_nn (HP.out.below HB.out).noneIs (Nd.noneIs (.inl rfl))).mono ?_
  rintro e w8 ⟨rfl, hbx⟩
  replace HB := Lib.hid (HB.out.trans (hbx.mono HB.out.size))
  clear hbx
  go_wp2_with fail
  refine (same_nd (HP.out.below HB.out).noneIs (HD.out.below HB.out).noneIs).mono ?_
  rintro e w9 ⟨rfl, hbx⟩
  replace HB := Lib.hid (HB.out.trans (hbx.mono HB.out.size))
  clear hbx
  go_wp2_with fail
  refine (same_dn (HD.out.below HB.out).noneIs (HP.out.below HB.out).noneIs).mono ?_
  rintro e w10 ⟨rfl, hbx⟩
  replace HB := Lib.hid (HB.out.trans (hbx.mono HB.out.size))
  clear hbx
  go_wp2
  go_ret
  exact ⟨rfl, HB.out⟩
end Go.Proofs.Ytdbkhigocjmfoaa

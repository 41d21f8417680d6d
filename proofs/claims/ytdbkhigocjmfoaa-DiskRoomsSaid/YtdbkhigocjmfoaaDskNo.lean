/-
  What a disk that is not there answers: nil, or one without a capacity.
-/
import Derived.Test.YtdbkhigocjmfoaaDskRen
namespace Go.Proofs.Ytdbkhigocjmfoaa
open Go.RowKit Go.Maps
open DskM
set_option linter.unusedVariables false
set_option linter.unusedSimpArgs false
set_option maxRecDepth 20000

/-- A pointer to no disk, or to one without a capacity. -/
def Nd (w : World) (P : Option Addr) : Prop := P = none ∨ ∃ p, P = some ⟨p, 0, none⟩ ∧ w.cell? ⟨p, 0, none⟩ = some (.int .i64 0)
theorem Nd.below {w w' : World} {P : Option Addr} (h : Nd w P) (hb : Below w.heap.size w w') : Nd w' P := by
  rcases h with rfl | ⟨p, rfl, c⟩
  · exact .inl rfl
  · exact .inr ⟨p, rfl, (hb.cell (World.block_lt_of_cell? w _ c)).trans c⟩
section
variable {w : World} {P : Option Addr}
theorem none_no (h : Nd w P) : Calls Try.prog 38 #[.pointer P] w fun e w' => e = .returned (.bool true) ∧ w' = w := by
  rcases h with rfl | ⟨p, rfl, c⟩
  · go_enter Try.func38, Try.ntmps38
    go_wp2
    go_ret
    exact ⟨rfl, rfl⟩
  · go_enter Try.func38, Try.ntmps38
    go_wp2
    go_ret
    exact ⟨rfl, rfl⟩
theorem find_no (h : Nd w P) (s : ByteArray) (may : Bool) :
    Calls Try.prog 52 #[.pointer P, .string s, .bool may] w fun e w' => e = .returned (.tuple #[.pointer none, .int .i64 1]) ∧ w' = w := by
  have hn := none_no h
  clear h
  go_enter Try.func52, Try.ntmps52
  go_wp2_with fail
  refine hn.mono ?_
  rintro e w1 ⟨rfl, rfl⟩
  clear hn
  go_wp2
  go_ret2
  exact ⟨rfl, rfl⟩
theorem dead_no (h : Nd w P) : Calls Try.prog 21 #[.pointer P] w fun e w' => e = .returned (.bool false) ∧ w' = w := by
  have hn := none_no h
  clear h
  go_enter Try.func21, Try.ntmps21
  go_wp2_with fail
  refine hn.mono ?_
  rintro e w1 ⟨rfl, rfl⟩
  clear hn
  go_wp2
  go_ret
  exact ⟨rfl, rfl⟩
theorem writes_no (h : Nd w P) : Calls Try.prog 22 #[.pointer P] w fun e w' => e = .returned (.int .i64 0) ∧ w' = w := by
  have hn := none_no h
  clear h
  go_enter Try.func22, Try.ntmps22
  go_wp2_with fail
  refine hn.mono ?_
  rintro e w1 ⟨rfl, rfl⟩
  clear hn
  go_wp2
  go_ret
  exact ⟨rfl, rfl⟩
theorem room_no (h : Nd w P) : Calls Try.prog 28 #[.pointer P] w fun e w' => e = .returned (.int .i64 0) ∧ w' = w := by
  have hn := none_no h
  clear h
  go_enter Try.func28, Try.ntmps28
  go_wp2_with fail
  refine hn.mono ?_
  rintro e w1 ⟨rfl, rfl⟩
  clear hn
  go_wp2
  go_ret
  exact ⟨rfl, rfl⟩
theorem copy_no (h : Nd w P) : Calls Try.prog 12 #[.pointer P] w fun e w' => e = .returned (.pointer none) ∧ w' = w := by
  have hn := none_no h
  clear h
  go_enter Try.func12, Try.ntmps12
  go_wp2_with fail
  refine hn.mono ?_
  rintro e w1 ⟨rfl, rfl⟩
  clear hn
  go_wp2
  go_ret
  exact ⟨rfl, rfl⟩
theorem read_no (h : Nd w P) (s : ByteArray) : Calls Try.prog 24 #[.pointer P, .string s] w fun e w' => e = .returned (.tuple #[.slice none 0 0, .int .i64 1]) ∧ w' = w := by
  have hfi := find_no h s true
  clear h
  go_enter Try.func24, Try.ntmps24
  go_wp2_with fail
  refine hfi.mono ?_
  rintro e w1 ⟨rfl, rfl⟩
  clear hfi
  go_wp2
  go_ret2
  exact ⟨rfl, rfl⟩
theorem lasts_no (h : Nd w P) (s : ByteArray) : Calls Try.prog 25 #[.pointer P, .string s] w fun e w' => e = .returned (.tuple #[.int .i64 0, .int .i64 1]) ∧ w' = w := by
  have hfi := find_no h s true
  clear h
  go_enter Try.func25, Try.ntmps25
  go_wp2_with fail
  refine hfi.mono ?_
  rintro e w1 ⟨rfl, rfl⟩
  clear hfi
  go_wp2
  go_ret2
  exact ⟨rfl, rfl⟩
theorem sync_no (h : Nd w P) (s : ByteArray) : Calls Try.prog 32 #[.pointer P, .string s] w fun e w' => e = .returned (.int .i64 1) ∧ Below w.heap.size w w' := by
  have hb0 : Below w.heap.size w w := (Below.refl _ _)
  have hfi := find_no (h.below hb0) s true
  have HB0 := Lib.hid hb0
  clear h hb0
  go_enter Try.func32, Try.ntmps32
  go_wp2_with fail
  refine hfi.mono ?_
  rintro e w1 ⟨rfl, rfl⟩
  clear hfi
  go_wp2
  go_ret
  exact ⟨rfl, HB0.out.alloc HB0.out.size _⟩
theorem remove_no (h : Nd w P) (s : ByteArray) : Calls Try.prog 40 #[.pointer P, .string s] w fun e w' => e = .returned (.int .i64 1) ∧ Below w.heap.size w w' := by
  have hb0 : Below w.heap.size w ((w.alloc (.cells #[.pointer P] 23)).alloc (.cells #[.string s] 9)) := (((Below.refl _ _).alloc (Nat.le_refl _) _).alloc (by simp) _)
  have hfi := find_no (h.below hb0) s true
  have HB0 := Lib.hid hb0
  clear h hb0
  go_enter Try.func40, Try.ntmps40
  go_wp2_with fail
  refine hfi.mono ?_
  rintro e w1 ⟨rfl, rfl⟩
  clear hfi
  go_wp2
  go_ret
  exact ⟨rfl, HB0.out⟩
theorem cut_no (h : Nd w P) (s : ByteArray) (n : Int) : Calls Try.prog 34 #[.pointer P, .string s, .int .i64 n] w fun e w' => e = .returned (.int .i64 1) ∧ Below w.heap.size w w' := by
  have hb0 : Below w.heap.size w (w.alloc (.cells #[.int .i64 n] 3)) := (Below.refl _ _).alloc (Nat.le_refl _) _
  have hB1 := Blk.new w 3 #[.int .i64 n]
  obtain ⟨q, hq⟩ : ∃ q : Bool, q = decide (0 ≤ n) := ⟨_, rfl⟩
  have hnd : decide (0 ≤ n) = q := hq.symm
  have hfi := find_no (h.below hb0) s q
  have HB0 := Lib.hid hb0
  clear h hb0 hq hB1
  go_enter Try.func34, Try.ntmps34
  go_wp2_with fail
  refine hfi.mono ?_
  rintro e w1 ⟨rfl, rfl⟩
  clear hfi
  go_wp2
  go_ret
  exact ⟨rfl, HB0.out.alloc HB0.out.size _⟩
theorem append_no (h : Nd w P) (s : ByteArray) (A : Option Addr) (n c : Nat) : Calls Try.prog 26 #[.pointer P, .string s, .slice A n c] w fun e w' => e = .returned (.int .i64 1) ∧ Below w.heap.size w w' := by
  have hb0 : Below w.heap.size w (((w.alloc (.cells #[.pointer P] 23)).alloc (.cells #[.string s] 9)).alloc (.cells #[.slice A n c] 38)) := ((((Below.refl _ _).alloc (Nat.le_refl _) _).alloc (by simp) _).alloc (by simp; omega) _)
  have hfi := find_no (h.below hb0) s true
  have HB0 := Lib.hid hb0
  clear h hb0
  go_enter Try.func26, Try.ntmps26
  go_wp2_with fail
  refine hfi.mono ?_
  rintro e w1 ⟨rfl, rfl⟩
  clear hfi
  go_wp2
  go_ret
  exact ⟨rfl, HB0.out.alloc HB0.out.size _⟩
theorem rename_no (h : Nd w P) (s t : ByteArray) : Calls Try.prog 27 #[.pointer P, .string s, .string t] w fun e w' => e = .returned (.int .i64 1) ∧ Below w.heap.size w w' :=
  ren_mid P s t none 1 (.inr (.inr (.inr rfl))) (fun X hX => (find_no (h.below hX) s _).mono (by rintro e w1 ⟨rfl, rfl⟩; exact ⟨rfl, Below.refl _ _⟩)) _ (fun _ X hb => ⟨rfl, hb⟩) (fun e => absurd e (by decide))
theorem fuse_no (h : Nd w P) (n : Int) : Calls Try.prog 33 #[.pointer P, .int .i64 n] w fun e w' => e = .returned (.tuple #[]) ∧ w' = w := by
  have hn := none_no h
  clear h
  go_enter Try.func33, Try.ntmps33
  go_wp2_with fail
  refine hn.mono ?_
  rintro e w1 ⟨rfl, rfl⟩
  clear hn
  go_wp2
  refine bodyPost_ret (results_none rfl _ _ _) rfl ?_
  exact ⟨rfl, rfl⟩
end
end Go.Proofs.Ytdbkhigocjmfoaa

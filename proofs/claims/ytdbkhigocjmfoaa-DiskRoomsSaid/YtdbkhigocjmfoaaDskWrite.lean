/-
  The walk of write, whatever it is handed: what the fuse lets be done, what is torn.
-/
import Derived.Test.YtdbkhigocjmfoaaDskFind
namespace Go.Proofs.Ytdbkhigocjmfoaa
open Go.RowKit Go.Maps
open DskM
set_option linter.unusedVariables false
set_option linter.unusedSimpArgs false
set_option maxRecDepth 20000

section
variable {w w' : World} {p m : Nat} {S S' : Ds} {L : List Fo}
theorem Dk.ne_map (h : Dk w p m S L) : m ≠ p := ownsMap_notcells h.map h.blk
theorem Dk.ne_file (h : Dk w p m S L) {f : Fo} (hf : f ∈ L) : f.g ≠ p := (h.file f hf).blk.ne_ h.blk (by decide)
theorem Dk.ne_row (h : Dk w p m S L) {f : Fo} (hf : f ∈ L) : f.v.ownBlock ≠ some p := fun e => by
  obtain ⟨cs, hc⟩ := (h.file f hf).row.isRow e
  exact absurd rfl (hc.ne_ h.blk (by decide))
/-- The disk's own numbers have turned. -/
theorem Dk.turn (h : Dk w p m S L) (k : Keep (fun i => i = p) w w') (hb : Blk w' p 63 (dkc S' m)) (hc : S'.cap = S.cap) (h1 : -9223372036854775808 ≤ S'.fuse) (h2 : S'.fuse ≤ 9223372036854775807) : Dk w' p m S' L :=
  ⟨hb, ownsMap_kept h.map k h.ne_map, h.rise, fun f hf => (h.file f hf).kept k (h.ne_file hf) (fun i hi e => h.ne_row hf (e ▸ hi)), h.apart, hc ▸ h.cap1, hc ▸ h.cap2, hc ▸ h.room, h.few, h1, h2⟩
/-- One more write. -/
def Ds.more (S : Ds) : Ds := { S with wr := S.wr + 1 }
/-- .. that the fuse lets be done. -/
def Ds.step (S : Ds) : Ds := { S with wr := S.wr + 1, fuse := if 0 < S.fuse then S.fuse - 1 else S.fuse }
/-- .. at which the power goes. -/
def Ds.gone (S : Ds) : Ds := { S with wr := S.wr + 1, dead := true }

theorem write_dead (h : Dk w p m S L) (hd : S.dead = true) (f1 f2 : Value) : Calls Try.prog 54 #[.pointer (some ⟨p, 0, none⟩), f1, f2] w fun e w' => e = .returned (.int .i64 8) ∧ w' = w := by
  have h3 := h.c3
  rw [hd] at h3
  clear h hd
  go_enter Try.func54, Try.ntmps54
  go_wp2
  go_ret
  exact ⟨rfl, rfl⟩

theorem Dk.at4 (h : Dk w p m S L) : Dk (w.setCell ⟨p, 4, none⟩ (.int .i64 ((S.wr : Int) + 1))) p m S.more L :=
  h.turn (Keep.setCell w _ _ rfl) (h.blk.set_ 4 _) rfl h.fuse1 h.fuse2
theorem Dk.at3 (h : Dk w p m S L) : Dk (w.setCell ⟨p, 3, none⟩ (.bool true)) p m { S with dead := true } L :=
  h.turn (Keep.setCell w _ _ rfl) (h.blk.set_ 3 _) rfl h.fuse1 h.fuse2
theorem Dk.at2 (h : Dk w p m S L) (n : Int) (h1 : -9223372036854775808 ≤ n) (h2 : n ≤ 9223372036854775807) : Dk (w.setCell ⟨p, 2, none⟩ (.int .i64 n)) p m { S with fuse := n } L :=
  h.turn (Keep.setCell w _ _ rfl) (h.blk.set_ 2 _) rfl h1 h2

set_option maxHeartbeats 1000000 in
theorem write_torn (h : Dk w p m S L) (hd : S.dead = false) (hf : S.fuse = 0) (hw : S.wr ≤ 1000000) (f1 : Value) (fid : Nat) (caps : Array Value) (Post : World → Prop)
    (eg : ∀ args w, (callFunc fid args).run Try.prog w = .ok (.enter fid args) w)
    (hrun : ∀ W, Dk W p m S.gone L → Keep (fun i => i = p) w W → W.heap.size = w.heap.size → Calls Try.prog fid caps W fun e W' => e = .returned (.tuple #[]) ∧ Post W') :
    Calls Try.prog 54 #[.pointer (some ⟨p, 0, none⟩), f1, .func (.func fid) #[] caps] w fun e w' => e = .returned (.int .i64 8) ∧ Post w' := by
  have h3 := h.c3
  have h4 := h.c4
  have h2 := h.c2
  rw [hd] at h3
  rw [hf] at h2
  have f4 := h.blk.frozen 4
  have f3 := h.blk.frozen 3
  have hw1 : IntKind.i64.wrap ((S.wr : Int) + 1) = (S.wr : Int) + 1 := by rw [IntKind.wrap_i64] <;> omega
  have hD := (h.at4).at3
  have hk : Keep (fun i => i = p) w ((w.setCell ⟨p, 4, none⟩ (.int .i64 ((S.wr : Int) + 1))).setCell ⟨p, 3, none⟩ (.bool true)) := (Keep.setCell (S := fun i => i = p) w _ _ rfl).trans (Keep.setCell (S := fun i => i = p) _ _ _ rfl) (fun _ h => h) (fun _ _ h => h)
  have hR := hrun _ hD hk (by simp)
  have HR := Lib.hid hR
  have hwr : (S.wr : Int) ≤ 1000000 := by omega
  have hwr0 : (0 : Int) ≤ (S.wr : Int) := by omega
  clear h hd hf hD hk hR hrun hw
  generalize S.wr = n at *
  go_enter Try.func54, Try.ntmps54
  go_wp2_with fail
  refine HR.out.mono ?_
  rintro e w1 ⟨rfl, hp⟩
  have HP := Lib.hid hp
  clear hp
  go_wp2_with fail
  go_ret
  exact ⟨rfl, HP.out⟩

set_option maxHeartbeats 1000000 in
theorem write_all (h : Dk w p m S L) (hd : S.dead = false) (hf : S.fuse ≠ 0) (hw : S.wr ≤ 1000000) (f2 : Value) (fid : Nat) (caps : Array Value) (Post : World → Prop)
    (eg : ∀ args w, (callFunc fid args).run Try.prog w = .ok (.enter fid args) w)
    (hrun : ∀ W, Dk W p m S.step L → Keep (fun i => i = p) w W → W.heap.size = w.heap.size → Calls Try.prog fid caps W fun e W' => e = .returned (.tuple #[]) ∧ Post W') :
    Calls Try.prog 54 #[.pointer (some ⟨p, 0, none⟩), .func (.func fid) #[] caps, f2] w fun e w' => e = .returned (.int .i64 0) ∧ Post w' := by
  have h3 := h.c3
  have h4 := h.c4
  have h2 := h.c2
  rw [hd] at h3
  have f4 := h.blk.frozen 4
  have f2' := h.blk.frozen 2
  have hw1 : IntKind.i64.wrap ((S.wr : Int) + 1) = (S.wr : Int) + 1 := by rw [IntKind.wrap_i64] <;> omega
  have hwr : (S.wr : Int) ≤ 1000000 := by omega
  have hwr0 : (0 : Int) ≤ (S.wr : Int) := by omega
  have hf0 : (S.fuse == 0) = false := by rw [beq_eq_false_iff_ne]; exact hf
  have hb1 := h.fuse1
  have hb2 := h.fuse2
  by_cases hp : 0 < S.fuse
  · have hD := (h.at4).at2 (S.fuse - 1) (by omega) (by omega)
    have hk : Keep (fun i => i = p) w ((w.setCell ⟨p, 4, none⟩ (.int .i64 ((S.wr : Int) + 1))).setCell ⟨p, 2, none⟩ (.int .i64 (S.fuse - 1))) := (Keep.setCell (S := fun i => i = p) w _ _ rfl).trans (Keep.setCell (S := fun i => i = p) _ _ _ rfl) (fun _ h => h) (fun _ _ h => h)
    have e : { S.more with fuse := S.fuse - 1 } = S.step := by unfold Ds.step Ds.more; rw [if_pos hp]
    rw [e] at hD
    have HR := Lib.hid (hrun _ hD hk (by simp))
    have hw2 : IntKind.i64.wrap (S.fuse - 1) = S.fuse - 1 := by rw [IntKind.wrap_i64] <;> omega
    have hpd : decide (0 < S.fuse) = true := decide_eq_true hp
    clear h hd hf hD hk hrun hw e hp
    generalize S.wr = n at *
    generalize S.fuse = q at *
    go_enter Try.func54, Try.ntmps54
    go_wp2_with fail
    refine HR.out.mono ?_
    rintro e w1 ⟨rfl, hp⟩
    have HP := Lib.hid hp
    clear hp
    go_wp2_with fail
    go_ret
    exact ⟨rfl, HP.out⟩
  · have hD := h.at4
    have hk : Keep (fun i => i = p) w (w.setCell ⟨p, 4, none⟩ (.int .i64 ((S.wr : Int) + 1))) := Keep.setCell (S := fun i => i = p) w _ _ rfl
    have e : S.more = S.step := by unfold Ds.step Ds.more; rw [if_neg hp]
    rw [e] at hD
    have HR := Lib.hid (hrun _ hD hk (by simp))
    have hpd : decide (0 < S.fuse) = false := decide_eq_false hp
    clear h hd hf hD hk hrun hw e hp
    generalize S.wr = n at *
    generalize S.fuse = q at *
    go_enter Try.func54, Try.ntmps54
    go_wp2_with fail
    refine HR.out.mono ?_
    rintro e w1 ⟨rfl, hp⟩
    have HP := Lib.hid hp
    clear hp
    go_wp2_with fail
    go_ret
    exact ⟨rfl, HP.out⟩
end
end Go.Proofs.Ytdbkhigocjmfoaa

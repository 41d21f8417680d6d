/-
  The document's reader in memory; the walks of its Bytes, Number, Blob, Left and End.
-/
import Derived.Test.YtigepbklpiilpaaBackRead
namespace Go.Proofs.Ytigepbklpiilpaa
open Go.RowKit
set_option linter.unusedVariables false
set_option linter.unusedSimpArgs false

/-- The document's reader in block h: the bytes L (in block bb, which bears a mark), a place, and has it failed? -/
structure RR (w : World) (h bb cB : Nat) (L : List UInt8) (at_ : Nat) (fl : Bool) : Prop where
  blk : Blk w h 79 #[.slice (some ⟨bb, 0, none⟩) L.length cB, .int .i64 (at_ : Int), .bool fl]
  mem : ∃ C fr, w.heap[bb]? = some (.cells C 5 fr) ∧ fr ≠ (0, 0) ∧ ∀ j (hj : j < L.length), C[j]? = some (.int .u8 (L[j].toNat : Int))
  le : at_ ≤ L.length
  cap : L.length ≤ cB
  small : L.length ≤ 100000

section
variable {w w' : World} {h bb cB at_ : Nat} {L : List UInt8} {fl : Bool}
theorem RR.cellB (r : RR w h bb cB L at_ fl) (j : Nat) (hj : j < L.length) : w.cell? ⟨bb, j, none⟩ = some (.int .u8 (L[j].toNat : Int)) := by
  obtain ⟨C, fr, hh, _, hx⟩ := r.mem
  have := cell_of_row w bb j C 5 fr hh
  rw [this]; exact hx j hj
theorem RR.ne_bb (r : RR w h bb cB L at_ fl) {g : Nat} {t : TypeId} {cs : Array Value} (hB : Blk w g t cs) : bb ≠ g := by
  rintro rfl
  obtain ⟨C, fr, hh, hne, _⟩ := r.mem
  unfold Blk at hB
  rw [hh] at hB
  injection hB with hB
  injection hB with _ _ h3
  exact hne h3
theorem RR.lt_bb (r : RR w h bb cB L at_ fl) : bb < w.heap.size := by
  obtain ⟨C, fr, hh, _⟩ := r.mem
  rcases Nat.lt_or_ge bb w.heap.size with hlt | hge
  · exact hlt
  · rw [Array.getElem?_eq_none hge] at hh; cases hh
/-- What turns another block alone leaves the reader. -/
theorem RR.grown (r : RR w h bb cB L at_ fl) {g : Nat} {t : TypeId} {cs : Array Value} (hB : Blk w g t cs) (ht : t ≠ 79) (hgr : w.grownBy w' (some g)) : RR w' h bb cB L at_ fl := by
  have h1 : h ≠ g := r.blk.ne_ hB (Ne.symm ht)
  have h2 := r.ne_bb hB
  have h3 := r.lt_bb
  refine ⟨r.blk.grown hgr (fun e => h1 (by injection e)), ?_, r.le, r.cap, r.small⟩
  obtain ⟨C, fr, hh, hne, hx⟩ := r.mem
  exact ⟨C, fr, (hgr.block bb h3 (fun e => h2 (by injection e))).trans hh, hne, hx⟩
theorem RR.below (r : RR w h bb cB L at_ fl) (hb : Below w.heap.size w w') : RR w' h bb cB L at_ fl := by
  refine ⟨r.blk.below hb r.blk.lt, ?_, r.le, r.cap, r.small⟩
  obtain ⟨C, fr, hh, hne, hx⟩ := r.mem
  exact ⟨C, fr, (hb.block bb r.lt_bb).trans hh, hne, hx⟩
theorem RR.drewN (r : RR w h bb cB L at_ fl) (n : Nat) : RR (w.drewN n) h bb cB L at_ fl := ⟨r.blk, r.mem, r.le, r.cap, r.small⟩
theorem RR.drew (r : RR w h bb cB L at_ fl) : RR w.drew h bb cB L at_ fl := ⟨r.blk, r.mem, r.le, r.cap, r.small⟩
/-- The place is moved. -/
theorem RR.move (r : RR w h bb cB L at_ fl) (a : Nat) (ha : a ≤ L.length) : RR (w.setCell ⟨h, 1, none⟩ (.int .i64 (a : Int))) h bb cB L a fl := by
  have hb := r.blk.set_ 1 (.int .i64 (a : Int))
  have h2 := r.ne_bb r.blk
  refine ⟨hb, ?_, ha, r.cap, r.small⟩
  obtain ⟨C, fr, hh, hne, hx⟩ := r.mem
  exact ⟨C, fr, (Below.heap_setCell w ⟨h, 1, none⟩ _ bb h2).trans hh, hne, hx⟩
theorem RR.fail (r : RR w h bb cB L at_ fl) : RR (w.setCell ⟨h, 2, none⟩ (.bool true)) h bb cB L at_ true := by
  have hb := r.blk.set_ 2 (.bool true)
  have h2 := r.ne_bb r.blk
  refine ⟨hb, ?_, r.le, r.cap, r.small⟩
  obtain ⟨C, fr, hh, hne, hx⟩ := r.mem
  exact ⟨C, fr, (Below.heap_setCell w ⟨h, 2, none⟩ _ bb h2).trans hh, hne, hx⟩
/-- A part of its bytes, as a slice. -/
theorem RR.part (r : RR w h bb cB L at_ fl) (i n c : Nat) (hi : i + n ≤ L.length) (hc : n ≤ c) : Sl w (.slice (some ⟨bb, i, none⟩) n c) ((L.drop i).take n) := by
  have hl : ((L.drop i).take n).length = n := by rw [List.length_take, List.length_drop]; omega
  refine ⟨_, c, by rw [hl], by rw [hl]; exact hc, fun _ => ⟨bb, i, rfl, fun j hj => ?_⟩⟩
  rw [hl] at hj
  rw [r.cellB (i + j) (by omega), List.getElem_take, List.getElem_drop]
end

/-- What stays outside two blocks: a slice of the document's reader is read later as it was. -/
def SlB (w : World) (bb : Nat) (v : Value) (p : List UInt8) : Prop := ∃ A c, v = .slice A p.length c ∧ p.length ≤ c ∧ (0 < p.length → ∃ o, A = some ⟨bb, o, none⟩ ∧ ∀ j (hj : j < p.length), w.cell? ⟨bb, o + j, none⟩ = some (.int .u8 (p[j].toNat : Int)))
theorem SlB.sl {w : World} {bb : Nat} {v : Value} {p : List UInt8} (h : SlB w bb v p) : Sl w v p := by
  obtain ⟨A, c, rfl, hc, ha⟩ := h
  exact ⟨A, c, rfl, hc, fun hn => by obtain ⟨o, e, hx⟩ := ha hn; exact ⟨bb, o, e, hx⟩⟩
theorem SlB.kb {w w' : World} {g bb : Nat} {v : Value} {p : List UInt8} (h : SlB w bb v p) (hg : bb ≠ g) (k : KB g w w') : Sl w' v p := by
  obtain ⟨A, c, rfl, hc, ha⟩ := h
  exact ⟨A, c, rfl, hc, fun hn => by obtain ⟨o, e, hx⟩ := ha hn; exact ⟨bb, o, e, fun j hj => k _ _ hg (hx j hj)⟩⟩

theorem RR.slb {w : World} {h bb cB at_ : Nat} {L : List UInt8} {fl : Bool} (r : RR w h bb cB L at_ fl) (i n c : Nat) (hi : i + n ≤ L.length) (hc : n ≤ c) : SlB w bb (.slice (some ⟨bb, i, none⟩) n c) ((L.drop i).take n) := by
  have hl : ((L.drop i).take n).length = n := by rw [List.length_take, List.length_drop]; omega
  refine ⟨_, c, by rw [hl], by rw [hl]; exact hc, fun _ => ⟨i, rfl, fun j hj => ?_⟩⟩
  rw [hl] at hj
  rw [r.cellB (i + j) (by omega), List.getElem_take, List.getElem_drop]
theorem SlB.none_ (w : World) (bb n : Nat) (A : Option Addr) (c : Nat) (p : List UInt8) (hn : n = 0) (hp : p = []) : SlB w bb (.slice A n c) p := by
  subst hn hp
  exact ⟨A, c, rfl, Nat.zero_le _, fun h => absurd h (by simp)⟩
theorem grown_drewN {w w' : World} {r : Option Nat} (h : w.grownBy w' r) (n : Nat) : w.grownBy (w'.drewN n) r := ⟨h.os, h.tape, h.output, h.size, h.block⟩

set_option maxHeartbeats 1000000 in
/-- Bytes, where there are so many. -/
theorem refBytes_ok (h bb cB at_ n : Nat) (L : List UInt8) (w : World) (r : RR w h bb cB L at_ false) (hn : at_ + n ≤ L.length) :
    Calls Try.prog 62 #[.pointer (some ⟨h, 0, none⟩), .int .i64 (n : Int)] w fun e w' =>
      ∃ v, e = .returned v ∧ SlB w' bb v ((L.drop at_).take n) ∧ RR w' h bb cB L (at_ + n) false ∧ w.grownBy w' (some h) := by
  have c0 : w.cell? ⟨h, 0, none⟩ = some (.slice (some ⟨bb, 0, none⟩) L.length cB) := r.blk.cell 0
  have c1 : w.cell? ⟨h, 1, none⟩ = some (.int .i64 (at_ : Int)) := r.blk.cell 1
  have c2 : w.cell? ⟨h, 2, none⟩ = some (.bool false) := r.blk.cell 2
  have hd0 : decide ((n : Int) < 0) = false := by simp
  have hd1 : decide ((L.length : Int) - (at_ : Int) < (n : Int)) = false := by simp; omega
  have hs := r.small
  have hfr := r.blk.frozen 1
  go_enter Try.func62, Try.ntmps62
  go_wp2
  go_quiet (fail)
  go_wp2
  rw [show (at_ : Int) + (n : Int) = ((at_ + n : Nat) : Int) by omega]
  have r2 : RR ((w.setCell ⟨h, 1, none⟩ (.int .i64 ((at_ + n : Nat) : Int))).drewN nq) h bb cB L (at_ + n) false := (r.move (at_ + n) hn).drewN nq
  have g2 : w.grownBy ((w.setCell ⟨h, 1, none⟩ (.int .i64 ((at_ + n : Nat) : Int))).drewN nq) (some h) := ⟨rfl, rfl, rfl, by simp [World.setCell], fun k hk hne => Below.heap_setCell w ⟨h, 1, none⟩ _ k (fun e => hne (by rw [e]))⟩
  change Code.wp _ _ _ _ ((w.setCell ⟨h, 1, none⟩ (.int .i64 ((at_ + n : Nat) : Int))).drewN nq)
  generalize (w.setCell ⟨h, 1, none⟩ (.int .i64 ((at_ + n : Nat) : Int))).drewN nq = W at r2 g2 ⊢
  clear c0 c1 c2 hfr r hd0 hd1
  have c0 : W.cell? ⟨h, 0, none⟩ = some (.slice (some ⟨bb, 0, none⟩) L.length cB) := r2.blk.cell 0
  have c1 : W.cell? ⟨h, 1, none⟩ = some (.int .i64 ((at_ + n : Nat) : Int)) := r2.blk.cell 1
  have hcap := r2.cap
  have hsub : ((at_ + n : Nat) : Int) - (n : Int) = (at_ : Int) := by omega
  go_quiet (fail)
  go_wp2_with fail
  · have hcc : cB = at_ := by assumption
    have n0 : n = 0 := by omega
    have r3 := r2
    rw [hcc] at r3
    go_ret
    exact ⟨_, rfl, SlB.none_ _ bb n _ _ _ n0 (by rw [n0]; simp), r3.drewN _, grown_drewN g2 _⟩
  · go_ret
    exact ⟨_, rfl, (r2.drewN _).slb at_ n (cB - at_) hn (by omega), r2.drewN _, grown_drewN g2 _⟩

set_option maxHeartbeats 1000000 in
/-- Bytes, of a reader that has failed. -/
theorem refBytes_failed (h bb cB at_ : Nat) (n : Int) (L : List UInt8) (w : World) (r : RR w h bb cB L at_ true) :
    Calls Try.prog 62 #[.pointer (some ⟨h, 0, none⟩), .int .i64 n] w fun e w' =>
      e = .returned (.slice none 0 0) ∧ RR w' h bb cB L at_ true ∧ w.grownBy w' (some h) := by
  have c2 : w.cell? ⟨h, 2, none⟩ = some (.bool true) := r.blk.cell 2
  have hfr := r.blk.frozen 2
  go_enter Try.func62, Try.ntmps62
  go_wp2
  go_quiet (fail)
  go_wp2
  go_ret
  exact ⟨rfl, (r.fail).drewN _, ⟨rfl, rfl, rfl, by simp [World.setCell], fun k hk hne => Below.heap_setCell w ⟨h, 2, none⟩ _ k (fun e => hne (by rw [e]))⟩⟩
set_option maxHeartbeats 1000000 in
/-- Bytes, where there are too few, or the number is below nought. -/
theorem refBytes_short (h bb cB at_ : Nat) (n : Int) (L : List UInt8) (w : World) (r : RR w h bb cB L at_ false) (hn : n < 0 ∨ (L.length : Int) - (at_ : Int) < n) :
    Calls Try.prog 62 #[.pointer (some ⟨h, 0, none⟩), .int .i64 n] w fun e w' =>
      e = .returned (.slice none 0 0) ∧ RR w' h bb cB L at_ true ∧ w.grownBy w' (some h) := by
  have c0 : w.cell? ⟨h, 0, none⟩ = some (.slice (some ⟨bb, 0, none⟩) L.length cB) := r.blk.cell 0
  have c1 : w.cell? ⟨h, 1, none⟩ = some (.int .i64 (at_ : Int)) := r.blk.cell 1
  have c2 : w.cell? ⟨h, 2, none⟩ = some (.bool false) := r.blk.cell 2
  have hfr := r.blk.frozen 2
  have hs := r.small
  have hle := r.le
  by_cases h0 : n < 0
  · have hd0 : decide (n < 0) = true := by simp; omega
    go_enter Try.func62, Try.ntmps62
    go_wp2
    go_quiet (fail)
    go_wp2
    go_ret
    exact ⟨rfl, (r.fail).drewN _, ⟨rfl, rfl, rfl, by simp [World.setCell], fun k hk hne => Below.heap_setCell w ⟨h, 2, none⟩ _ k (fun e => hne (by rw [e]))⟩⟩
  · have hd0 : decide (n < 0) = false := by simp; omega
    have hd1 : decide ((L.length : Int) - (at_ : Int) < n) = true := by simp; omega
    go_enter Try.func62, Try.ntmps62
    go_wp2
    go_quiet (fail)
    go_wp2
    go_ret
    exact ⟨rfl, (r.fail).drewN _, ⟨rfl, rfl, rfl, by simp [World.setCell], fun k hk hne => Below.heap_setCell w ⟨h, 2, none⟩ _ k (fun e => hne (by rw [e]))⟩⟩

/-- Left. -/
theorem refLeft_no (h bb cB at_ : Nat) (L : List UInt8) (w : World) (r : RR w h bb cB L at_ false) :
    Calls Try.prog 64 #[.pointer (some ⟨h, 0, none⟩)] w fun e w' => e = .returned (.int .i64 ((L.drop at_).length : Int)) ∧ ∃ n, w' = w.drewN n := by
  have c0 : w.cell? ⟨h, 0, none⟩ = some (.slice (some ⟨bb, 0, none⟩) L.length cB) := r.blk.cell 0
  have c1 : w.cell? ⟨h, 1, none⟩ = some (.int .i64 (at_ : Int)) := r.blk.cell 1
  have c2 : w.cell? ⟨h, 2, none⟩ = some (.bool false) := r.blk.cell 2
  have hs := r.small
  have hle := r.le
  have E := Lib.hid (List.length_drop (i := at_) (l := L))
  go_enter Try.func64, Try.ntmps64
  go_wp2
  go_quiet (fail)
  go_wp2
  go_ret
  exact ⟨ret_int (by rw [E.out]; omega), _, rfl⟩
theorem refLeft_yes (h bb cB at_ : Nat) (L : List UInt8) (w : World) (r : RR w h bb cB L at_ true) :
    Calls Try.prog 64 #[.pointer (some ⟨h, 0, none⟩)] w fun e w' => e = .returned (.int .i64 0) ∧ w = w' := by
  have c2 : w.cell? ⟨h, 2, none⟩ = some (.bool true) := r.blk.cell 2
  go_enter Try.func64, Try.ntmps64
  go_wp2
  go_ret
  exact ⟨rfl, rfl⟩
/-- End. -/
def endN (l : List UInt8) : Int := if l = [] then 0 else 4
theorem refEnd_no (h bb cB at_ : Nat) (L : List UInt8) (w : World) (r : RR w h bb cB L at_ false) :
    Calls Try.prog 50 #[.pointer (some ⟨h, 0, none⟩)] w fun e w' => e = .returned (.int .i64 (endN (L.drop at_))) ∧ ∃ n, w' = w.drewN n := by
  have c2 : w.cell? ⟨h, 2, none⟩ = some (.bool false) := r.blk.cell 2
  have HL := Lib.hid (refLeft_no h bb cB at_ L w r)
  by_cases h0 : L.drop at_ = []
  · have E := Lib.hid (show endN (L.drop at_) = 0 by unfold endN; rw [if_pos h0])
    have hz : (L.drop at_).length = 0 := by rw [h0]; rfl
    have HZ := Lib.hid hz
    clear h0 hz
    go_enter Try.func50, Try.ntmps50
    go_wp2_with fail
    refine HL.out.mono ?_
    rintro e w' ⟨rfl, n, rfl⟩
    rw [HZ.out]
    go_wp2
    go_ret
    exact ⟨ret_int (by rw [E.out]), n, rfl⟩
  · have E := Lib.hid (show endN (L.drop at_) = 4 by unfold endN; rw [if_neg h0])
    have hz : 0 < (L.drop at_).length := List.length_pos_iff.2 h0
    clear h0
    generalize (L.drop at_).length = z at hz HL
    go_enter Try.func50, Try.ntmps50
    go_wp2_with fail
    refine HL.out.mono ?_
    rintro e w' ⟨rfl, n, rfl⟩
    have hz2 : (0 : Int) < (z : Int) := by omega
    go_wp2
    go_ret
    exact ⟨ret_int (by rw [E.out]), n, rfl⟩
theorem refEnd_yes (h bb cB at_ : Nat) (L : List UInt8) (w : World) (r : RR w h bb cB L at_ true) :
    Calls Try.prog 50 #[.pointer (some ⟨h, 0, none⟩)] w fun e w' => e = .returned (.int .i64 4) ∧ w = w' := by
  have c2 : w.cell? ⟨h, 2, none⟩ = some (.bool true) := r.blk.cell 2
  go_enter Try.func50, Try.ntmps50
  go_wp2
  go_ret
  exact ⟨rfl, rfl⟩
end Go.Proofs.Ytigepbklpiilpaa

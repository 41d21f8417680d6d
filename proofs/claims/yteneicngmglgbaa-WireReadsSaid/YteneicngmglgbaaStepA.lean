/-
  A step of both readers: they read alike, and go on alike.
-/
import Derived.Test.YteneicngmglgbaaStepB
namespace Go.Proofs.Yteneicngmglgbaa.RB
open Go.RowKit
set_option linter.unusedVariables false
set_option linter.unusedSimpArgs false

/-- The reader in block g has these bytes left, or has failed. -/
def WS (B : Nat) (w : World) (g : Nat) : Option (List UInt8) → Prop
  | none => Fd w g
  | some l => Rd B w g l
section
variable {B : Nat} {w w' : World} {g h bb cB a : Nat} {L : List UInt8} {fl : Bool} {o : Option (List UInt8)}
theorem WS.hdr (hs : WS B w g o) : ∃ cs, Blk w g 78 cs := by
  cases o with
  | none => exact ⟨_, hs⟩
  | some l => obtain ⟨A, c, hg, _⟩ := hs; exact ⟨_, hg⟩
theorem WS.below (hs : WS B w g o) (hb : Below w.heap.size w w') : WS B w' g o := by
  cases o with
  | none => exact Fd.below hs hb
  | some l => exact Rd.below hs hb
theorem WS.byH (hs : WS B w g o) (r : RR w h bb cB L a fl) (hgr : w.grownBy w' (some h)) : WS B w' g o := by
  cases o with
  | none => exact Blk.grown hs hgr (fun e => Blk.ne_ hs r.blk (by decide) (by injection e))
  | some l => exact ((Rd.part hs).grown r.blk (by decide) (by decide) hgr).rd
theorem RR.byG (r : RR w h bb cB L a fl) (hs : WS B w g o) (hgr : w.grownBy w' (some g)) : RR w' h bb cB L a fl := by
  obtain ⟨cs, hg⟩ := hs.hdr
  exact r.grown hg (by decide) hgr
end

/-- Both readers stand at one place, or both have failed. -/
def JS (B : Nat) (w : World) (g h bb cB : Nat) (L : List UInt8) : Prop := (∃ a, RR w h bb cB L a true ∧ WS B w g none) ∨ (∃ a, RR w h bb cB L a false ∧ WS B w g (some (L.drop a)))

structure Mid (B : Nat) (w0 : World) (g h bb cB : Nat) (L : List UInt8) (sb : Nat) (N : Int) (a : Nat) (fl : Bool) (o : Option (List UInt8)) (w1 : World) : Prop where
  rr : RR w1 h bb cB L a fl
  ws : WS B w1 g o
  below : Below B w0 w1
  box : ∃ cs, Blk w1 sb 62 cs ∧ cs[1]? = some (.int .i64 N)
section
variable {B : Nat} {w w1 w2 : World} {g h bb cB a a2 sb : Nat} {L : List UInt8} {fl fl2 : Bool} {o o2 : Option (List UInt8)} {N : Int}
theorem Mid.drew (m : Mid B w g h bb cB L sb N a fl o w1) : Mid B w g h bb cB L sb N a fl o w1.drew :=
  ⟨m.rr.drew, m.ws.below (Below.refl _ _).drew, m.below.drew, m.box⟩
theorem Mid.start (k : Int) (hB : B ≤ w.heap.size) (r : RR w h bb cB L a fl) (hs : WS B w g o) : Mid B w g h bb cB L w.heap.size N a fl o (boxed w k N) := by
  have hb : Below w.heap.size w (boxed w k N) := (Below.refl _ _).alloc (Nat.le_refl _) _
  exact ⟨r.below hb, hs.below hb, hb.mono hB, _, Blk.new w 62 #[.int .i64 k, .int .i64 N], rfl⟩
theorem Mid.boxN (m : Mid B w g h bb cB L sb N a fl o w1) : Box w1 sb N := by
  obtain ⟨cs, hb, e⟩ := m.box
  unfold Box
  rw [hb.cell 1, e]
theorem Mid.wire (m : Mid B w g h bb cB L sb N a fl o w1) (hB : B ≤ w.heap.size) (hg : B ≤ g) (hs : WS B w2 g o2) (hgr : w1.grownBy w2 (some g)) : Mid B w g h bb cB L sb N a fl o2 w2 := by
  obtain ⟨cs, hb, e⟩ := m.box
  obtain ⟨cg, hgb⟩ := m.ws.hdr
  exact ⟨RR.byG m.rr m.ws hgr, hs, Below.only m.below hgr hg (Nat.le_trans hB m.below.size), cs, hb.grown hgr (fun e => hb.ne_ hgb (by decide) (by injection e)), e⟩
theorem Mid.ref (m : Mid B w g h bb cB L sb N a fl o w1) (hB : B ≤ w.heap.size) (hh : B ≤ h) (r2 : RR w2 h bb cB L a2 fl2) (hgr : w1.grownBy w2 (some h)) : Mid B w g h bb cB L sb N a2 fl2 o w2 := by
  obtain ⟨cs, hb, e⟩ := m.box
  exact ⟨r2, m.ws.byH m.rr hgr, Below.only m.below hgr hh (Nat.le_trans hB m.below.size), cs, hb.grown hgr (fun e => hb.ne_ m.rr.blk (by decide) (by injection e)), e⟩
theorem Mid.failed (m : Mid B w g h bb cB L sb N a true none w1) : JS B w1 g h bb cB L ∧ Below B w w1 := ⟨.inl ⟨a, m.rr, m.ws⟩, m.below⟩
theorem Mid.goes (m : Mid B w g h bb cB L sb N a false (some (L.drop a)) w1) : JS B w1 g h bb cB L ∧ Below B w w1 := ⟨.inr ⟨a, m.rr, m.ws⟩, m.below⟩
end

section
variable {B : Nat} {w : World} {g h bb cB : Nat} {L : List UInt8}

theorem stepA_number (N : Int) (hB : B ≤ w.heap.size) (hg : B ≤ g) (hh : B ≤ h) (J : JS B w g h bb cB L) :
    Calls Try.prog 30 #[.pointer (some ⟨g, 0, none⟩), .pointer (some ⟨h, 0, none⟩), .agg #[.int .i64 1, .int .i64 N]] w fun e w' => e = .returned (.bool true) ∧ JS B w' g h bb cB L ∧ Below B w w' := by
  rcases J with ⟨a, r, hs⟩ | ⟨a, r, hs⟩
  · have m := (Mid.start (N := N) 1 hB r hs).drew
    refine step_number g h N 0 w (Mid B w g h bb cB L w.heap.size N a true none) _ ?_ ?_
    · exact (number_failed g N _ m.ws).mono fun e w' ⟨he, hf, hgr⟩ => have m' := m.wire hB hg (o2 := none) hf hgr; ⟨he, m', m'.boxN⟩
    · exact fun w1 m1 => (refNumber_bad h bb cB a N true L w1 m1.rr (.inl rfl)).mono fun e w' ⟨he, hr, hgr⟩ => have m' := m1.ref hB hh hr hgr; ⟨he, m'.failed, m'.boxN⟩
  · have m := (Mid.start (N := N) 1 hB r hs).drew
    have hsm := r.small
    have hle := r.le
    have hdl : (L.drop a).length = L.length - a := List.length_drop
    by_cases h1 : N < 0 ∨ ((L.drop a).length : Int) < N
    · refine step_number g h N 0 w (Mid B w g h bb cB L w.heap.size N a false none) _ ?_ ?_
      · exact (number_short g N _ _ m.ws h1 (by omega)).mono fun e w' ⟨he, hf, hgr⟩ => have m' := m.wire hB hg (o2 := none) hf hgr; ⟨he, m', m'.boxN⟩
      · exact fun w1 m1 => (refNumber_bad h bb cB a N false L w1 m1.rr (.inr (by omega))).mono fun e w' ⟨he, hr, hgr⟩ => have m' := m1.ref hB hh hr hgr; ⟨he, m'.failed, m'.boxN⟩
    · obtain ⟨s, rfl⟩ : ∃ s : Nat, N = (s : Int) := ⟨N.toNat, by omega⟩
      by_cases h2 : s < 1 ∨ 8 < s
      · refine step_number g h s 0 w (Mid B w g h bb cB L w.heap.size s a false none) _ ?_ ?_
        · exact (number_size g s _ _ m.ws h2 (by omega) (by omega)).mono fun e w' ⟨he, hf, hgr⟩ => have m' := m.wire hB hg (o2 := none) hf hgr; ⟨he, m', m'.boxN⟩
        · exact fun w1 m1 => (refNumber_bad h bb cB a s false L w1 m1.rr (.inr (by omega))).mono fun e w' ⟨he, hr, hgr⟩ => have m' := m1.ref hB hh hr hgr; ⟨he, m'.failed, m'.boxN⟩
      · refine step_number g h s (beN ((L.drop a).take s) : Int) w (Mid B w g h bb cB L w.heap.size s a false (some ((L.drop a).drop s))) _ ?_ ?_
        · exact (number_ok g s _ _ m.ws (by omega) (by omega) (by omega) (by omega)).mono fun e w' ⟨he, hf, hgr⟩ => have m' := m.wire hB hg (o2 := some ((L.drop a).drop s)) hf hgr; ⟨he, m', m'.boxN⟩
        · exact fun w1 m1 => (refNumber_ok h bb cB a s L w1 m1.rr (by omega) (by omega) (by omega)).mono fun e w' ⟨he, hr, hgr⟩ => have m' := m1.ref hB hh hr hgr; ⟨he, Mid.goes (by rw [List.drop_drop] at m'; exact m'), m'.boxN⟩

theorem stepA_dot (N : Int) (hB : B ≤ w.heap.size) (hg : B ≤ g) (hh : B ≤ h) (J : JS B w g h bb cB L) :
    Calls Try.prog 30 #[.pointer (some ⟨g, 0, none⟩), .pointer (some ⟨h, 0, none⟩), .agg #[.int .i64 3, .int .i64 N]] w fun e w' => e = .returned (.bool true) ∧ JS B w' g h bb cB L ∧ Below B w w' := by
  rcases J with ⟨a, r, hs⟩ | ⟨a, r, hs⟩
  · have m := Mid.start (N := N) 3 hB r hs
    refine step_dot g h N 0 0 w (Mid B w g h bb cB L w.heap.size N a true none) _ ?_ ?_
    · exact (rdot_failed g _ m.ws).mono fun e w' ⟨he, hf, hgr⟩ => ⟨he, m.wire hB hg (o2 := none) hf hgr⟩
    · exact fun w1 m1 => (refDotR_bad h bb cB a true L w1 m1.rr (.inl rfl)).mono fun e w' ⟨he, hr, hgr⟩ => ⟨he, (m1.ref hB hh hr hgr).failed⟩
  · have m := Mid.start (N := N) 3 hB r hs
    have hsm := r.small
    have hle := r.le
    have hdl : (L.drop a).length = L.length - a := List.length_drop
    by_cases h9 : a + 9 ≤ L.length
    · obtain ⟨c0, q, hq⟩ : ∃ c0 q, (L.drop a).take 9 = c0 :: q := by
        cases e : (L.drop a).take 9 with
        | nil => have := congrArg List.length e; rw [List.length_take] at this; simp at this; omega
        | cons c q => exact ⟨c, q, rfl⟩
      refine step_dot g h N (c0.toNat : Int) (beN q : Int) w (Mid B w g h bb cB L w.heap.size N a false (some ((L.drop a).drop 9))) _ ?_ ?_
      · exact (rdot_ok g _ c0 q _ m.ws (by omega) (by omega) hq).mono fun e w' ⟨he, hf, hgr⟩ => ⟨he, m.wire hB hg (o2 := some ((L.drop a).drop 9)) hf hgr⟩
      · exact fun w1 m1 => (refDotR_ok h bb cB a c0 q L w1 m1.rr h9 hq).mono fun e w' ⟨he, hr, hgr⟩ => have m' := m1.ref hB hh hr hgr; ⟨he, Mid.goes (by rw [List.drop_drop] at m'; exact m')⟩
    · refine step_dot g h N 0 0 w (Mid B w g h bb cB L w.heap.size N a false none) _ ?_ ?_
      · exact (rdot_short g _ _ m.ws (by omega)).mono fun e w' ⟨he, hf, hgr⟩ => ⟨he, m.wire hB hg (o2 := none) hf hgr⟩
      · exact fun w1 m1 => (refDotR_bad h bb cB a false L w1 m1.rr (.inr (by omega))).mono fun e w' ⟨he, hr, hgr⟩ => ⟨he, (m1.ref hB hh hr hgr).failed⟩

theorem stepA_vec (N : Int) (hB : B ≤ w.heap.size) (hg : B ≤ g) (hh : B ≤ h) (J : JS B w g h bb cB L) :
    Calls Try.prog 30 #[.pointer (some ⟨g, 0, none⟩), .pointer (some ⟨h, 0, none⟩), .agg #[.int .i64 4, .int .i64 N]] w fun e w' => e = .returned (.bool true) ∧ JS B w' g h bb cB L ∧ Below B w w' := by
  rcases J with ⟨a, r, hs⟩ | ⟨a, r, hs⟩
  · have m := Mid.start (N := N) 4 hB r hs
    refine step_vec g h N _ _ zeros_vec w (Mid B w g h bb cB L w.heap.size N a true none) _ ?_ ?_
    · exact (rvec_failed g _ m.ws).mono fun e w' ⟨he, hf, hgr⟩ => ⟨he, m.wire hB hg (o2 := none) hf hgr⟩
    · exact fun w1 m1 => (refVecR_bad h bb cB a true L w1 m1.rr (.inl rfl)).mono fun e w' ⟨he, hr, hgr⟩ => ⟨he, (m1.ref hB hh hr hgr).failed⟩
  · have m := Mid.start (N := N) 4 hB r hs
    have hsm := r.small
    have hle := r.le
    have hdl : (L.drop a).length = L.length - a := List.length_drop
    by_cases h128 : a + 128 ≤ L.length
    · have hVC : ∃ C, Vec C (vecN ((L.drop a).take 128)) := ⟨((vecN ((L.drop a).take 128)).map (fun (n : Nat) => Value.int .u64 (n : Int))).toArray, by simp, vecN_length _, fun n hn => by
        obtain ⟨i, _, rfl⟩ := List.mem_map.1 hn
        exact beN_lt64 _ (by rw [List.length_take]; omega)⟩
      obtain ⟨C, hC⟩ := hVC
      refine step_vec g h N C _ hC w (Mid B w g h bb cB L w.heap.size N a false (some ((L.drop a).drop 128))) _ ?_ ?_
      · exact (rvec_ok g _ _ m.ws (by omega) (by omega)).mono fun e w' ⟨C', he, hC', hf, hgr⟩ => ⟨by rw [he, hC'.uniq hC], m.wire hB hg (o2 := some ((L.drop a).drop 128)) hf hgr⟩
      · exact fun w1 m1 => (refVecR_ok h bb cB a L w1 m1.rr h128).mono fun e w' ⟨C', he, hC', hr, hgr⟩ => have m' := m1.ref hB hh hr hgr; ⟨by rw [he, hC'.uniq hC], Mid.goes (by rw [List.drop_drop] at m'; exact m')⟩
    · refine step_vec g h N _ _ zeros_vec w (Mid B w g h bb cB L w.heap.size N a false none) _ ?_ ?_
      · exact (rvec_short g _ _ m.ws (by omega)).mono fun e w' ⟨he, hf, hgr⟩ => ⟨he, m.wire hB hg (o2 := none) hf hgr⟩
      · exact fun w1 m1 => (refVecR_bad h bb cB a false L w1 m1.rr (.inr (by omega))).mono fun e w' ⟨he, hr, hgr⟩ => ⟨he, (m1.ref hB hh hr hgr).failed⟩

theorem Part.slH {w w' : World} {a : Nat} {fl : Bool} {A : Option Addr} {p l : List UInt8} {n c : Nat} (hp : Part B w g A p l) (r : RR w h bb cB L a fl) (k : KB h w w') (hn : n = p.length) (hc : n ≤ c) : Sl w' (.slice A n c) p := by
  subst hn
  obtain ⟨A', c', hg, _, ha, _⟩ := hp
  refine ⟨A, c, rfl, hc, fun hn => ?_⟩
  obtain ⟨b, o, cs, e, hB, hx⟩ := ha hn
  have hne : b ≠ h := hB.ne_ r.blk (by decide)
  exact ⟨b, o, e, fun j hj => k _ _ hne (by rw [hB.cell]; exact hx j hj)⟩
theorem conv_nil (w : World) : (convert 23 9 (.slice none 0 0)).run Try.prog w = .ok (.string ⟨#[]⟩) w := conv_any (Sl.nil none 0)

theorem stepA_blob (N : Int) (hB : B ≤ w.heap.size) (hg : B ≤ g) (hh : B ≤ h) (J : JS B w g h bb cB L) :
    Calls Try.prog 30 #[.pointer (some ⟨g, 0, none⟩), .pointer (some ⟨h, 0, none⟩), .agg #[.int .i64 2, .int .i64 N]] w fun e w' => e = .returned (.bool true) ∧ JS B w' g h bb cB L ∧ Below B w w' := by
  rcases J with ⟨a, r, hs⟩ | ⟨a, r, hs⟩
  · have m := (Mid.start (N := N) 2 hB r hs).drew
    refine step_blob g h N ⟨#[]⟩ w (fun v w1 => v = .slice none 0 0 ∧ Mid B w g h bb cB L w.heap.size N a true none w1) _ ?_ ?_ ?_
    · exact (rblob_failed g _ m.ws).mono fun e w' ⟨he, hf, hgr⟩ => ⟨_, he, rfl, m.wire hB hg (o2 := none) hf hgr⟩
    · rintro v w1 w' ⟨rfl, _⟩ _; exact conv_nil w'
    · rintro v w1 ⟨rfl, m1⟩
      exact (refBlob_bad h bb cB a true L w1 m1.rr (.inl rfl)).mono fun e w' ⟨he, ⟨a2, hr⟩, hgr⟩ => ⟨_, he, KB.of_grown hgr, (m1.ref hB hh hr hgr).failed, fun w'' _ => conv_nil w''⟩
  · have m := (Mid.start (N := N) 2 hB r hs).drew
    have hsm := r.small
    have hle := r.le
    have hdl : (L.drop a).length = L.length - a := List.length_drop
    by_cases h2 : a + 2 ≤ L.length
    · obtain ⟨n, hn⟩ : ∃ n, n = beN ((L.drop a).take 2) := ⟨_, rfl⟩
      have hdd : ((L.drop a).drop 2).length = L.length - (a + 2) := by rw [List.drop_drop, List.length_drop]
      by_cases h3 : a + 2 + n ≤ L.length
      · have hpl : ((L.drop (a + 2)).take n).length = n := by rw [List.length_take, List.length_drop]; omega
        refine step_blob g h N ⟨((L.drop (a + 2)).take n).toArray⟩ w (fun v w1 => ∃ A, v = .slice A n n ∧ Part B w1 g A ((L.drop (a + 2)).take n) (L.drop (a + 2 + n)) ∧ Mid B w g h bb cB L w.heap.size N a false (some (L.drop (a + 2 + n))) w1) _ ?_ ?_ ?_
        · refine (rblob_ok g n _ _ m.ws (by omega) hn (by omega) (by omega)).mono fun e w' ⟨A, he, hp, hgr⟩ => ?_
          rw [List.drop_drop, List.drop_drop] at hp
          exact ⟨_, he, A, rfl, hp, m.wire hB hg (o2 := some (L.drop (a + 2 + n))) hp.rd hgr⟩
        · rintro v w1 w' ⟨A, rfl, hp, m1⟩ hk
          exact conv_any (Part.slH hp m1.rr hk hpl.symm (Nat.le_refl _))
        · rintro v w1 ⟨A, rfl, hp, m1⟩
          refine (refBlob_ok h bb cB a n L w1 m1.rr h2 hn h3).mono fun e w' ⟨v2, he, hsb, hr, hgr⟩ => ?_
          have m' := m1.ref hB hh hr hgr
          exact ⟨v2, he, KB.of_grown hgr, m'.goes, fun w'' hk => conv_any (hsb.kb (hr.ne_bb hr.blk) hk)⟩
      · refine step_blob g h N ⟨#[]⟩ w (fun v w1 => v = .slice none 0 0 ∧ Mid B w g h bb cB L w.heap.size N a false none w1) _ ?_ ?_ ?_
        · exact (rblob_few g n _ _ m.ws (by omega) hn (by omega) (by omega)).mono fun e w' ⟨he, hf, hgr⟩ => ⟨_, he, rfl, m.wire hB hg (o2 := none) hf hgr⟩
        · rintro v w1 w' ⟨rfl, _⟩ _; exact conv_nil w'
        · rintro v w1 ⟨rfl, m1⟩
          exact (refBlob_few h bb cB a n L w1 m1.rr h2 hn (by omega)).mono fun e w' ⟨he, ⟨a2, hr⟩, hgr⟩ => ⟨_, he, KB.of_grown hgr, (m1.ref hB hh hr hgr).failed, fun w'' _ => conv_nil w''⟩
    · refine step_blob g h N ⟨#[]⟩ w (fun v w1 => v = .slice none 0 0 ∧ Mid B w g h bb cB L w.heap.size N a false none w1) _ ?_ ?_ ?_
      · exact (rblob_short g _ _ m.ws (by omega)).mono fun e w' ⟨he, hf, hgr⟩ => ⟨_, he, rfl, m.wire hB hg (o2 := none) hf hgr⟩
      · rintro v w1 w' ⟨rfl, _⟩ _; exact conv_nil w'
      · rintro v w1 ⟨rfl, m1⟩
        exact (refBlob_bad h bb cB a false L w1 m1.rr (.inr (by omega))).mono fun e w' ⟨he, ⟨a2, hr⟩, hgr⟩ => ⟨_, he, KB.of_grown hgr, (m1.ref hB hh hr hgr).failed, fun w'' _ => conv_nil w''⟩

/-- A store into a part that was handed out leaves what is still to be read. -/
theorem Part.store {w : World} {A : Option Addr} {p l : List UInt8} {b o k : Nat} (hp : Part B w g A p l) (hA : A = some ⟨b, o, none⟩) (hk : k < p.length) (c : UInt8) :
    Part B (w.setCell ⟨b, o + k, none⟩ (bv c)) g A (p.set k c) l ∧ ∃ cs, MBlk B w b cs ∧ cs[o + k]? = some (.int .u8 (p[k].toNat : Int)) := by
  obtain ⟨A', c', hg, hc, ha, hl⟩ := hp
  obtain ⟨b1, o1, cs, e1, hM, hx⟩ := ha (by omega)
  rw [hA] at e1
  injection e1 with e1
  injection e1 with e1 e2
  subst e1 e2
  have hne : b ≠ g := hM.ne_ hg (by decide)
  have hM' : MBlk B (w.setCell ⟨b, o + k, none⟩ (bv c)) b (cs.setIfInBounds (o + k) (bv c)) := ⟨hM.ge, hM.blk.set_ _ _⟩
  have hok : o + k < cs.size := by
    have := hx k hk
    rcases Nat.lt_or_ge (o + k) cs.size with h | h
    · exact h
    · rw [Array.getElem?_eq_none h] at this; cases this
  refine ⟨⟨A', c', hg.far (Ne.symm hne) _, hc, fun _ => ⟨b, o, _, hA, hM', fun j hj => ?_⟩, fun hn => ?_⟩, cs, hM, hx k hk⟩
  · have hj' : j < p.length := by simpa using hj
    by_cases e : j = k
    · subst e
      rw [Array.getElem?_setIfInBounds_self_of_lt hok, List.getElem_set_self]; rfl
    · rw [Array.getElem?_setIfInBounds_ne (by omega), hx j hj', List.getElem_set_ne (by omega)]
  · obtain ⟨b2, o2, cs2, e2, hM2, hx2, hw2⟩ := hl hn
    obtain ⟨o3, e3, hle⟩ := hw2 (by omega)
    rw [hA] at e3
    injection e3 with e3
    injection e3 with e3 e4
    subst e3 e4
    have hcs : cs = cs2 := by
      have h1 := hM.blk
      have h2 := hM2.blk
      unfold Blk at h1 h2
      rw [h1] at h2
      injection h2 with h2
      injection h2
    subst hcs
    refine ⟨b, o2, _, e2, hM', fun j hj => ?_, fun _ => ⟨o, hA, by simpa using hle⟩⟩
    rw [Array.getElem?_setIfInBounds_ne (by omega), hx2 j hj]

/-- What is known while a part that was handed out is written. -/
def QB (B : Nat) (w : World) (g h bb cB : Nat) (L : List UInt8) (A : Option Addr) (n : Nat) (w' : World) : Prop :=
  n ≤ 9000 ∧ Below B w w' ∧ ((n = 0 ∧ JS B w' g h bb cB L) ∨ ∃ p a, p.length = n ∧ Part B w' g A p (L.drop a) ∧ RR w' h bb cB L a false)
theorem QB.done {A : Option Addr} {n : Nat} {w' : World} (q : QB B w g h bb cB L A n w') : JS B w' g h bb cB L ∧ Below B w w' := by
  obtain ⟨_, hb, ⟨_, hj⟩ | ⟨p, a, _, hp, hr⟩⟩ := q
  · exact ⟨hj, hb⟩
  · exact ⟨.inr ⟨a, hr, hp.rd⟩, hb⟩
theorem QB.store {A : Option Addr} {n k : Nat} {wr : World} (q : QB B w g h bb cB L A n wr) (hk : k < n) :
    ∃ b o, ∃ c : UInt8, A = some ⟨b, o, none⟩ ∧ wr.cell? ⟨b, o + k, none⟩ = some (.int .u8 (c.toNat : Int)) ∧ wr.frozen? ⟨b, o + k, none⟩ = false ∧ QB B w g h bb cB L A n (wr.setCell ⟨b, o + k, none⟩ (.int .u8 (((c.toNat : Int) + 1) % 256))) := by
  obtain ⟨h9, hb, ⟨h0, _⟩ | ⟨p, a, hn, hp, hr⟩⟩ := q
  · omega
  · have hp0 := hp
    obtain ⟨A', c', hg, hc, ha, hl⟩ := hp0
    obtain ⟨b, o, cs, e, hM, hx⟩ := ha (by omega)
    obtain ⟨hst, cs2, hM2, hx2⟩ := Part.store hp e (show k < p.length by omega) (UInt8.ofNat ((p[k].toNat + 1) % 256))
    refine ⟨b, o, p[k], e, by rw [hM2.cell]; exact hx2, hM.blk.frozen _, h9, hb.setCell hM.ge _, .inr ⟨p.set k (UInt8.ofNat ((p[k].toNat + 1) % 256)), a, by simpa using hn, ?_, ?_⟩⟩
    · have e2 : (((p[k].toNat : Int) + 1) % 256) = ((UInt8.ofNat ((p[k].toNat + 1) % 256)).toNat : Int) := by rw [ofNat_mod_toNat]; omega
      rw [e2]
      exact hst
    · exact hr.grown hM.blk (by decide) (grown_setCell _ _ _ _)

theorem stepB_fin (N : Int) (str : ByteArray) (P : Option Addr → Nat → World → Prop) (hlt : h < w.heap.size)
    (hw : Calls Try.prog 40 #[.pointer (some ⟨g, 0, none⟩), .int .i64 N] (boxed w 5 N) fun e w' => ∃ A n, e = .returned (.slice A n n) ∧ P A n w' ∧ Box w' w.heap.size N)
    (hc : ∀ A n w1 w', P A n w1 → KB h w1 w' → (convert 23 9 (.slice A n n)).run Try.prog w' = .ok (.string str) w')
    (hr : ∀ A n w1, P A n w1 → Calls Try.prog 49 #[.pointer (some ⟨h, 0, none⟩), .int .i64 N] w1.drew fun e w' => ∃ v2, e = .returned v2 ∧ KB h w1.drew w' ∧ QB B w g h bb cB L A n w' ∧ ∀ w'', KB h w' w'' → (convert 23 9 v2).run Try.prog w'' = .ok (.string str) w'') :
    Calls Try.prog 30 #[.pointer (some ⟨g, 0, none⟩), .pointer (some ⟨h, 0, none⟩), .agg #[.int .i64 5, .int .i64 N]] w fun e w' => e = .returned (.bool true) ∧ JS B w' g h bb cB L ∧ Below B w w' :=
  (step_bytes g h N str w hlt P (QB B w g h bb cB L) hw hc hr (fun A n w1 q => q.1) (fun A n wr k q hk => q.store hk)).mono fun e w' ⟨he, A, n, q⟩ => ⟨he, q.done⟩

theorem stepA_bytes (N : Int) (hB : B ≤ w.heap.size) (hg : B ≤ g) (hh : B ≤ h) (J : JS B w g h bb cB L) :
    Calls Try.prog 30 #[.pointer (some ⟨g, 0, none⟩), .pointer (some ⟨h, 0, none⟩), .agg #[.int .i64 5, .int .i64 N]] w fun e w' => e = .returned (.bool true) ∧ JS B w' g h bb cB L ∧ Below B w w' := by
  rcases J with ⟨a, r, hs⟩ | ⟨a, r, hs⟩
  · have m := Mid.start (N := N) 5 hB r hs
    refine stepB_fin _ ⟨#[]⟩ (fun A n w1 => (A = none ∧ n = 0) ∧ Mid B w g h bb cB L w.heap.size N a true none w1) r.blk.lt ?_ ?_ ?_
    · exact (bytes_failed g N _ m.ws).mono fun e w' ⟨he, hf, hgr⟩ => have m' := m.wire hB hg (o2 := none) hf hgr; ⟨none, 0, he, ⟨⟨rfl, rfl⟩, m'⟩, m'.boxN⟩
    · rintro A n w1 w' ⟨⟨rfl, rfl⟩, _⟩ _; exact conv_nil w'
    · rintro A n w1 ⟨⟨rfl, rfl⟩, m1⟩
      exact (refBytes_failed h bb cB a N L _ m1.drew.rr).mono fun e w' ⟨he, hr, hgr⟩ => have f := (m1.drew.ref hB hh hr hgr).failed; ⟨_, he, KB.of_grown hgr, ⟨by omega, f.2, .inl ⟨rfl, f.1⟩⟩, fun w'' _ => conv_nil w''⟩
  · have m := Mid.start (N := N) 5 hB r hs
    have hsm := r.small
    have hle := r.le
    have hdl : (L.drop a).length = L.length - a := List.length_drop
    by_cases h1 : N < 0 ∨ ((L.drop a).length : Int) < N
    · refine stepB_fin _ ⟨#[]⟩ (fun A n w1 => (A = none ∧ n = 0) ∧ Mid B w g h bb cB L w.heap.size N a false none w1) r.blk.lt ?_ ?_ ?_
      · exact (bytes_short g N _ _ m.ws h1 (by omega)).mono fun e w' ⟨he, hf, hgr⟩ => have m' := m.wire hB hg (o2 := none) hf hgr; ⟨none, 0, he, ⟨⟨rfl, rfl⟩, m'⟩, m'.boxN⟩
      · rintro A n w1 w' ⟨⟨rfl, rfl⟩, _⟩ _; exact conv_nil w'
      · rintro A n w1 ⟨⟨rfl, rfl⟩, m1⟩
        exact (refBytes_short h bb cB a N L _ m1.drew.rr (by omega)).mono fun e w' ⟨he, hr, hgr⟩ => have f := (m1.drew.ref hB hh hr hgr).failed; ⟨_, he, KB.of_grown hgr, ⟨by omega, f.2, .inl ⟨rfl, f.1⟩⟩, fun w'' _ => conv_nil w''⟩
    · obtain ⟨s, rfl⟩ : ∃ s : Nat, N = (s : Int) := ⟨N.toNat, by omega⟩
      have hpl : ((L.drop a).take s).length = s := by rw [List.length_take]; omega
      refine stepB_fin _ ⟨((L.drop a).take s).toArray⟩ (fun A n w1 => n = s ∧ Part B w1 g A ((L.drop a).take s) (L.drop (a + s)) ∧ Mid B w g h bb cB L w.heap.size s a false (some (L.drop (a + s))) w1) r.blk.lt ?_ ?_ ?_
      · refine (bytes_ok g s _ _ m.ws (by omega) (by omega)).mono fun e w' ⟨A, he, hp, hgr⟩ => ?_
        rw [List.drop_drop] at hp
        have m' := m.wire hB hg (o2 := some (L.drop (a + s))) hp.rd hgr
        exact ⟨A, s, he, ⟨rfl, hp, m'⟩, m'.boxN⟩
      · rintro A n w1 w' ⟨rfl, hp, m1⟩ hk
        exact conv_any (Part.slH hp m1.rr hk hpl.symm (Nat.le_refl _))
      · rintro A n w1 ⟨rfl, hp, m1⟩
        refine (refBytes_ok h bb cB a n L _ m1.drew.rr (by omega)).mono fun e w' ⟨v2, he, hsb, hr, hgr⟩ => ?_
        have m' := m1.drew.ref hB hh hr hgr
        have hpd : Part B w1.drew g A ((L.drop a).take n) (L.drop (a + n)) := by
          obtain ⟨A', c', hg', hc', ha', hl'⟩ := hp
          exact ⟨A', c', hg', hc', fun hn => (by obtain ⟨b, o, cs, e, hM, hx⟩ := ha' hn; exact ⟨b, o, cs, e, ⟨hM.ge, hM.blk⟩, hx⟩), fun hn => (by obtain ⟨b, o, cs, e, hM, hx⟩ := hl' hn; exact ⟨b, o, cs, e, ⟨hM.ge, hM.blk⟩, hx⟩)⟩
        have hp2 := hpd.grown m1.drew.rr.blk (by decide) (by decide) hgr
        exact ⟨v2, he, KB.of_grown hgr, ⟨by omega, m'.below, .inr ⟨_, a + n, hpl, hp2, hr⟩⟩, fun w'' hk => conv_any (hsb.kb (hr.ne_bb hr.blk) hk)⟩

/-- A step, whatever it is. -/
theorem step_any (k N : Int) (hB : B ≤ w.heap.size) (hg : B ≤ g) (hh : B ≤ h) (J : JS B w g h bb cB L) :
    Calls Try.prog 30 #[.pointer (some ⟨g, 0, none⟩), .pointer (some ⟨h, 0, none⟩), .agg #[.int .i64 k, .int .i64 N]] w fun e w' => e = .returned (.bool true) ∧ JS B w' g h bb cB L ∧ Below B w w' := by
  by_cases h1 : k = 1
  · subst h1; exact stepA_number N hB hg hh J
  by_cases h2 : k = 2
  · subst h2; exact stepA_blob N hB hg hh J
  by_cases h3 : k = 3
  · subst h3; exact stepA_dot N hB hg hh J
  by_cases h4 : k = 4
  · subst h4; exact stepA_vec N hB hg hh J
  by_cases h5 : k = 5
  · subst h5; exact stepA_bytes N hB hg hh J
  refine (step_none g h k N w (by omega)).mono fun e w' ⟨he, hw⟩ => ?_
  subst hw
  refine ⟨he, ?_, ((Below.refl B w).alloc hB _)⟩
  rcases J with ⟨a, r, hs⟩ | ⟨a, r, hs⟩
  · have m := Mid.start (N := N) k hB r hs
    exact m.failed.1
  · have m := Mid.start (N := N) k hB r hs
    exact m.goes.1
end
end Go.Proofs.Yteneicngmglgbaa.RB

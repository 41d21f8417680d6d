/-
  (*Log).do: one step behind the other.
-/
import Derived.Test.YtibifnknkphanaaGreatDoorWLog
namespace Go.Proofs.YtibifnknkphanaaGreatDoor
open Go.RowKit Go.Maps
open DskM WalM
set_option linter.unusedVariables false
set_option linter.unusedSimpArgs false
set_option maxRecDepth 20000
attribute [local go_sem] Oper.semAt_some

/-- What a step comes to. -/
abbrev PStep := Ds → List Fp → Lg → Int × Ds × List Fp × Lg
/-- One step behind the other, till one is refused. -/
def runP : List PStep → Ds → List Fp → Lg → Int × Ds × List Fp × Lg
  | [], S, F, L => (0, S, F, L)
  | f :: r, S, F, L => if (f S F L).1 = 0 then runP r (f S F L).2.1 (f S F L).2.2.1 (f S F L).2.2.2 else ((f S F L).1, (f S F L).2.1, (f S F L).2.2.1, { (f S F L).2.2.2 with dead := decide ((f S F L).1 = 8) })
/-- A closure is a step; behind it what the log turns is among T'. -/
structure StepOk2 (D T T' : Nat → Prop) (w : World) (g p : Nat) (s : ByteArray) (most : Int) (x : Nat × Array Value) (f : PStep) : Prop where
  enters : ∀ args w, (callFunc x.1 args).run Tryz.prog w = .ok (.enter x.1 args) w
  wr : ∀ S F L, (f S F L).2.1.wr ≤ S.wr + 1
  len : ∀ S F L, (f S F L).2.2.2.recs.length ≤ max (L.recs.length + 1) 1000001
  calls : ∀ S F L W, LT D T w g p s most S F L W → S.wr ≤ 1000000 → L.recs.length ≤ 2000001 → Calls Tryz.prog x.1 x.2 W fun e W' => e = .returned (.int .i64 (f S F L).1) ∧ LT D T' w g p s most (f S F L).2.1 (f S F L).2.2.1 (f S F L).2.2.2 W'
abbrev StepOk (D T : Nat → Prop) := StepOk2 D T T
def fnV (x : Nat × Array Value) : Value := .func (.func x.1) #[] x.2
/-- A list of closures, one behind the other, each a step. -/
inductive StepsOk (D : Nat → Prop) (w : World) (g p : Nat) (s : ByteArray) (most : Int) (E : Nat → Prop) : (Nat → Prop) → List (Nat × Array Value) → List PStep → Prop
  | nil {T} : (∀ j, T j → E j) → StepsOk D w g p s most E T [] []
  | cons {T T1 x f xs fs} : (∀ j, T j → E j) → StepOk2 D T T1 w g p s most x f → StepsOk D w g p s most E T1 xs fs → StepsOk D w g p s most E T (x :: xs) (f :: fs)
section
variable {D T T' E : Nat → Prop} {w w' : World} {g p : Nat} {s : ByteArray} {most : Int}
theorem LT.more {S : Ds} {F : List Fp} {L : Lg} (h : LT D T w g p s most S F L w') (hT : ∀ j, T j → T' j) : LT D T' w g p s most S F L w' := by
  obtain ⟨D1, T1, h1, h2, h3, h4⟩ := h
  exact ⟨D1, T1, h1, h2, fun j hj => (h3 j hj).imp (hT j) id, h4.mono (fun i hi => hi.imp id (hT i))⟩
theorem StepsOk.sub {xs : List (Nat × Array Value)} {fs : List PStep} (h : StepsOk D w g p s most E T xs fs) : ∀ j, T j → E j := by
  cases h with
  | nil h => exact h
  | cons h _ _ => exact h
theorem StepsOk.len {xs : List (Nat × Array Value)} {fs : List PStep} (h : StepsOk D w g p s most E T xs fs) : xs.length = fs.length := by
  induction h with
  | nil _ => rfl
  | cons _ _ _ ih => simp [ih]
/-- Steps that all turn the same. -/
inductive AllOk (D T : Nat → Prop) (w : World) (g p : Nat) (s : ByteArray) (most : Int) : List (Nat × Array Value) → List PStep → Prop
  | nil : AllOk D T w g p s most [] []
  | cons {x f xs fs} : StepOk D T w g p s most x f → AllOk D T w g p s most xs fs → AllOk D T w g p s most (x :: xs) (f :: fs)
theorem AllOk.app {xs ys : List (Nat × Array Value)} {fs gs : List PStep} (h : AllOk D T w g p s most xs fs) (k : AllOk D T w g p s most ys gs) : AllOk D T w g p s most (xs ++ ys) (fs ++ gs) := by
  induction h with
  | nil => exact k
  | cons a b ih => exact .cons a ih
theorem AllOk.on {xs ys : List (Nat × Array Value)} {fs gs : List PStep} (h : AllOk D T w g p s most xs fs) (k : StepsOk D w g p s most E T ys gs) : StepsOk D w g p s most E T (xs ++ ys) (fs ++ gs) := by
  induction h with
  | nil => exact k
  | cons a b ih => exact .cons k.sub a ih
theorem AllOk.steps {xs : List (Nat × Array Value)} {fs : List PStep} (h : AllOk D T w g p s most xs fs) : StepsOk D w g p s most T T xs fs := by
  have := h.on (E := T) (.nil (fun _ h => h))
  rwa [List.append_nil, List.append_nil] at this
/-- Setting the log's mark. -/
theorem LT.mark {S : Ds} {F : List Fp} {L : Lg} {W : World} (h : LT D T w g p s most S F L W) (d : Bool) : LT D T w g p s most S F { L with dead := d } (W.setCell ⟨g, 8, none⟩ (.bool d)) := by
  obtain ⟨D1, T1, h1, h2, h3, h4⟩ := h
  obtain ⟨vs, vr, hb, ht, hs, hr⟩ := h1.log
  have hgD : ¬ D1 g := fun e => h1.sep g e ht
  have hk : Keep (fun j => j = g) W (W.setCell ⟨g, 8, none⟩ (.bool d)) := Keep.setCell _ _ _ rfl
  have hoth : ∀ k t cs, k ≠ g → Blk W k t cs → Blk (W.setCell ⟨g, 8, none⟩ (.bool d)) k t cs := fun k t cs hne hb' => hb'.kept hk hne
  have hsz : (W.setCell ⟨g, 8, none⟩ (.bool d)).heap.size = W.heap.size := by unfold World.setCell; simp
  refine ⟨D1, T1, ⟨h1.disk.kept hk (fun i hi e => hgD (e ▸ hi)), ⟨vs, vr, hb.set_ 8 _, ht, hs.kept (fun k cs hx hb' => ⟨hx, hoth k _ cs (fun e => hx.2 (e ▸ ht)) hb'⟩), hr.kept (fun k cs hx hb' => ⟨hx, hoth k _ cs (fun e => hx.2 (e ▸ ht)) hb'⟩) (fun k cs hx hb' => ⟨hx, hoth k _ cs (fun e => by
    subst e
    have e := hb'.symm.trans hb
    injection e with e
    injection e with _ e
    revert e; decide) hb'⟩)⟩, h1.sep, fun j hj => by rw [hsz]; exact h1.dlt j hj, fun j hj => by rw [hsz]; exact h1.tlt j hj, h1.ld.keep hk (fun i e => by subst e; exact h1.ft i ht), h1.fd, h1.ft, h1.nb⟩, h2, h3, ?_⟩
  refine h4.trans hk (fun _ h => h) (fun i hi e => ?_)
  subst e
  exact .inr ((h3 _ ht).elim id (fun e => by omega))
theorem LT.head {S : Ds} {F : List Fp} {L : Lg} {W : World} (h : LT D T w g p s most S F L W) : ∃ vs vr, Blk W g 60 (lgCells p s most L.num vs vr L.size L.synced L.dead) := by
  obtain ⟨D1, T1, h1, h2, h3, h4⟩ := h
  obtain ⟨vs, vr, hb, ht, hs, hr⟩ := h1.log
  exact ⟨vs, vr, hb⟩
/-- What is left to do, and where it began. -/
def DoI (D E : Nat → Prop) (w : World) (g p : Nat) (s : ByteArray) (most : Int) (xs : List (Nat × Array Value)) (fs : List PStep) (r : Int × Ds × List Fp × Lg) (i : Nat) (W : World) : Prop :=
  ∃ S F L T, StepsOk D w g p s most E T (xs.drop i) (fs.drop i) ∧ LT D T w g p s most S F L W ∧ S.wr + (fs.length - i) ≤ 1000000 ∧ L.recs.length ≤ 1000001 + i ∧ i ≤ fs.length ∧ runP (fs.drop i) S F L = r
set_option maxHeartbeats 2000000 in
theorem do_any {S : Ds} {F : List Fp} {L : Lg} (xs : List (Nat × Array Value)) (fs : List PStep) (hok : StepsOk D w g p s most E T xs fs) (h : LT D T w g p s most S F L w') (b o c : Nat) (hw : S.wr + fs.length ≤ 1000000) (hlr : L.recs.length ≤ 1000001)
    (hcell : ∀ i (hi : i < xs.length), w.cell? ⟨b, o + i, none⟩ = some (fnV xs[i])) (hb : ¬ (D b ∨ E b)) (hn : xs.length ≤ 1000000) :
    Calls Tryz.prog 55 #[.pointer (some ⟨g, 0, none⟩), .slice (some ⟨b, o, none⟩) xs.length c] w' fun e W' => e = .returned (.int .i64 (runP fs S F L).1) ∧ LT D E w g p s most (runP fs S F L).2.1 (runP fs S F L).2.2.1 (runP fs S F L).2.2.2 W' := by
  obtain ⟨r, hr⟩ : ∃ r, r = runP fs S F L := ⟨_, rfl⟩
  rw [← hr]
  have HI := Lib.hid (show DoI D E w g p s most xs fs r 0 w' from ⟨S, F, L, T, hok, h, by omega, by omega, Nat.zero_le _, by rw [hr]; rfl⟩)
  have HCELL := Lib.hid hcell
  have HLEN := Lib.hid hok.len
  clear hok hcell hr h hw
  go_enter Tryz.func55, Tryz.ntmps55
  go_wp2
  go_loopw [10] (fun x wr => ∃ i : Nat, i ≤ xs.length ∧ x = .int .i64 (i : Int) ∧ DoI D E w g p s most xs fs r i wr) (fun x _ => xs.length - (intOf x).toNat)
  case atStart => exact ⟨0, Nat.zero_le _, rfl, HI.out⟩
  case round =>
    obtain ⟨i, hi, rfl, S1, F1, L1, T0, hok1, h1, hw1, hl1, hif, hr1⟩ := hrel
    by_cases hlt : i < xs.length
    · have hlf : i < fs.length := by rw [← HLEN.out]; exact hlt
      have q1 := (h1.more hok1.sub).cell (HCELL.out i hlt) hb
      obtain ⟨T2, hst, hok2⟩ : ∃ T2, StepOk2 D T0 T2 w g p s most xs[i] fs[i] ∧ StepsOk D w g p s most E T2 (xs.drop (i + 1)) (fs.drop (i + 1)) := by
        rw [List.drop_eq_getElem_cons hlt, List.drop_eq_getElem_cons hlf] at hok1
        cases hok1 with
        | cons _ a b => exact ⟨_, a, b⟩
      have HOK2 := Lib.hid hok2
      have hrun : runP (fs.drop i) S1 F1 L1 = if (fs[i] S1 F1 L1).1 = 0 then runP (fs.drop (i + 1)) (fs[i] S1 F1 L1).2.1 (fs[i] S1 F1 L1).2.2.1 (fs[i] S1 F1 L1).2.2.2 else ((fs[i] S1 F1 L1).1, (fs[i] S1 F1 L1).2.1, (fs[i] S1 F1 L1).2.2.1, { (fs[i] S1 F1 L1).2.2.2 with dead := decide ((fs[i] S1 F1 L1).1 = 8) }) := by
        rw [List.drop_eq_getElem_cons hlf]; rfl
      rw [hrun] at hr1
      have hcall := hst.calls S1 F1 L1 wr h1 (by omega) (by omega)
      have hlen1 := hst.len S1 F1 L1
      have hwr1 := hst.wr S1 F1 L1
      have hent := hst.enters
      generalize fs[i] S1 F1 L1 = q at hr1 hcall hwr1 hlen1
      generalize xs[i] = x at q1 hcall hent
      obtain ⟨f, cs⟩ := x
      unfold fnV at q1
      dsimp only at q1 hcall hent
      have HCALL := Lib.hid hcall
      have HR1 := Lib.hid hr1
      have HENT := Lib.hid hent
      clear hst hrun hr1 hcall h1 hok1 hok2
      go_wp2_with fail
      refine HCALL.out.mono ?_
      rintro e W2 ⟨rfl, hl2⟩
      obtain ⟨qc, qS, qF, qL⟩ := q
      have HL2 := Lib.hid hl2
      clear HCALL hl2
      have hr1 := HR1.out
      by_cases hq : qc = 0
      · subst hq
        dsimp only at hr1 hwr1 hlen1
        rw [if_pos rfl] at hr1
        have HN := Lib.hid (show DoI D E w g p s most xs fs r (i + 1) W2 from ⟨qS, qF, qL, T2, HOK2.out, HL2.out, by omega, by omega, by omega, hr1⟩)
        clear hr1 HR1 HL2 q1
        go_wp2
        go_roundw
        case rel => exact ⟨i + 1, by omega, by go_num, HN.out⟩
        case measure => simp [intOf]; omega
      · dsimp only at hr1 hwr1 hlen1
        rw [if_neg hq] at hr1
        obtain ⟨vs, vr, hbg⟩ := HL2.out.head
        have q8 : W2.cell? ⟨g, 8, none⟩ = some (.bool qL.dead) := by rw [hbg.cell]; rfl
        have f8 := hbg.frozen 8
        have hbq : (qc != 0) = true := by rw [bne_iff_ne]; exact hq
        have HN := Lib.hid (show r.1 = qc ∧ LT D E w g p s most r.2.1 r.2.2.1 r.2.2.2 (W2.setCell ⟨g, 8, none⟩ (.bool (decide (qc = 8)))) from by rw [← hr1]; exact ⟨rfl, (HL2.out.mark _).more HOK2.out.sub⟩)
        clear hr1 HR1 HL2 q1 hbg
        by_cases h8 : qc = 8
        · have hb8 : (qc == 8) = true := by rw [h8]; rfl
          rw [decide_eq_true h8] at HN
          clear h8
          go_wp2
          go_ret
          rw [HN.out.1]
          exact ⟨rfl, HN.out.2⟩
        · have hb8 : (qc == 8) = false := by rw [beq_eq_false_iff_ne]; exact h8
          rw [decide_eq_false h8] at HN
          clear h8
          go_wp2
          go_ret
          rw [HN.out.1]
          exact ⟨rfl, HN.out.2⟩
    · obtain rfl : i = xs.length := by omega
      have hdr : fs.drop xs.length = [] := by rw [HLEN.out, List.drop_length]
      rw [hdr] at hr1
      have HE := Lib.hid (show r.1 = 0 ∧ LT D E w g p s most r.2.1 r.2.2.1 r.2.2.2 wr from by rw [← hr1]; exact ⟨rfl, h1.more hok1.sub⟩)
      clear hr1 h1 hok1
      go_wp2
      go_ret
      rw [HE.out.1]
      exact ⟨rfl, HE.out.2⟩
end
end Go.Proofs.YtibifnknkphanaaGreatDoor

/-
  The closures of wal, each a step: those that write on the disk.
-/
namespace Go.Proofs.YtibifnknkphanaaGreatDoor
open Go.RowKit Go.Maps
open DskM WalM
set_option linter.unusedVariables false
set_option linter.unusedSimpArgs false
set_option maxRecDepth 20000
attribute [local go_sem] Oper.semAt_some

section
variable {D T : Nat → Prop} {w W : World} {g p : Nat} {s : ByteArray} {most : Int} {S : Ds} {F : List Fp} {L : Lg}
theorem LT.open (h : LT D T w g p s most S F L W) : ∃ D1 T1, LW D1 T1 W g p s most S F L ∧ (∀ a u, w.cell? a = some u → ¬ (D a.block ∨ T a.block) → W.cell? a = some u ∧ ¬ D1 a.block ∧ ¬ T1 a.block) ∧ (∀ v l, SlT (fun k => ¬ D k ∧ ¬ T k) w v l → SlT (fun k => ¬ D1 k ∧ ¬ T1 k) W v l) ∧ (∀ W' S' F' L', LT D1 T1 W g p s most S' F' L' W' → LT D T w g p s most S' F' L' W') := by
  have h' := h
  obtain ⟨D1, T1, h1, h2, h3, h4⟩ := h
  refine ⟨D1, T1, h1, fun a u hu hn => ⟨h4.cell hu hn, fun e => ?_, fun e => ?_⟩, fun v l hu' => ?_, fun W' S' F' L' k => ?_⟩
  · have := World.block_lt_of_cell? w a hu
    exact (h2 _ e).elim (fun e => hn (.inl e)) (fun e => by omega)
  · have := World.block_lt_of_cell? w a hu
    exact (h3 _ e).elim (fun e => hn (.inr e)) (fun e => by omega)
  · refine hu'.kept (fun k cs hx hb => ⟨⟨fun e => (h2 k e).elim hx.1 (fun e => by have := hb.lt; omega), fun e => (h3 k e).elim hx.2 (fun e => by have := hb.lt; omega)⟩, hb.kept h4 (fun e => e.elim hx.1 hx.2)⟩)
  · obtain ⟨D2, T2, k1, k2, k3, k4⟩ := k
    have hs := h4.size
    refine ⟨D2, T2, k1, fun j hj => (k2 j hj).elim (h2 j) (fun e => .inr (Nat.le_trans hs e)), fun j hj => (k3 j hj).elim (h3 j) (fun e => .inr (Nat.le_trans hs e)), h4.trans k4 (fun _ h => h) (fun i hi e => ?_)⟩
    rcases e with e | e
    · exact (h2 i e).imp id (fun e => by omega)
    · exact (h3 i e).elim .inr (fun e => by omega)
theorem wrote_end {D1 T1 : Nat → Prop} {X Y : World} {r : Int × Ds × List Fp} (h : LW D1 T1 W g p s most S F L) (hb : Below W.heap.size W X) (hm : Mx (fun j => D1 j ∨ X.heap.size ≤ j) Y p r.2.1 r.2.2) (hk : Keep (fun j => D1 j ∨ X.heap.size ≤ j) X Y) : LT D1 T1 W g p s most r.2.1 r.2.2 L Y :=
  LT.from hb ((h.below hb).wrote hm hk)
theorem keep_wr {D1 : Nat → Prop} {Z0 X Y : World} (h : Keep D1 Z0 X) (hk : Keep (fun j => D1 j ∨ X.heap.size ≤ j) X Y) : Keep D1 Z0 Y :=
  h.trans hk (fun _ h => h) (fun i hi e => e.elim id (fun e => by have := h.size; omega))
end
section
variable {D T : Nat → Prop} {w : World} {g p : Nat} {s : ByteArray} {most : Int}
theorem writeS_wr (S : Ds) (d t F : List Fp) : (writeS S d t F).2.1.wr ≤ S.wr + 1 := by
  unfold writeS
  split
  · exact Nat.le_succ _
  · split <;> exact Nat.le_refl _
theorem appendS_wr (S : Ds) (F : List Fp) (n : Nm) (b : List UInt8) : (appendS S F n b).2.1.wr ≤ S.wr + 1 := by
  unfold appendS; split
  · split
    · exact Nat.le_succ _
    · exact writeS_wr _ _ _ _
  · exact Nat.le_succ _
theorem syncS_wr (S : Ds) (F : List Fp) (n : Nm) : (syncS S F n).2.1.wr ≤ S.wr + 1 := by
  unfold syncS; split
  · split
    · exact Nat.le_succ _
    · exact writeS_wr _ _ _ _
  · exact Nat.le_succ _
theorem removeS_wr (S : Ds) (F : List Fp) (n : Nm) : (removeS S F n).2.1.wr ≤ S.wr + 1 := by
  unfold removeS; split
  · split
    · exact Nat.le_succ _
    · exact writeS_wr _ _ _ _
  · exact Nat.le_succ _
theorem cutS_wr (S : Ds) (F : List Fp) (n : Nm) (k : Int) : (cutS S F n k).2.1.wr ≤ S.wr + 1 := by
  unfold cutS; split
  · split
    · exact Nat.le_succ _
    · split
      · exact Nat.le_succ _
      · exact writeS_wr _ _ _ _
  · exact Nat.le_succ _
/-- A write as a step. -/
def wrP (f : Ds → List Fp → Int × Ds × List Fp) : PStep := fun S F L => ((f S F).1, (f S F).2.1, (f S F).2.2, L)
/-- A file that is removed; one that is not there is as one that was. -/
def removeP (nm : Nm) : PStep := fun S F L => (if (removeS S F nm).1 = 6 then 0 else (removeS S F nm).1, (removeS S F nm).2.1, (removeS S F nm).2.2, L)
def appendNowP (s : ByteArray) (b : List UInt8) : PStep := fun S F L => wrP (fun S F => appendS S F (seg s.data.toList L.num) b) S F L
def syncNowP (s : ByteArray) : PStep := fun S F L => wrP (fun S F => syncS S F (seg s.data.toList L.num)) S F L
theorem segS_list (s : ByteArray) (n : Nat) : (segS s n).data.toList = seg s.data.toList n := by simp [segS]
set_option maxHeartbeats 1000000 in
theorem rem_step (c0 c1 n : Nat) (q0 : w.cell? ⟨c0, 0, none⟩ = some (.pointer (some ⟨g, 0, none⟩))) (e0 : ¬ (D c0 ∨ T c0)) (q1 : w.cell? ⟨c1, 0, none⟩ = some (.int .i64 (n : Int))) (e1 : ¬ (D c1 ∨ T c1)) (hn : n ≤ 9223372036854775807) (hsz : s.size ≤ 1000000) :
    StepOk D T w g p s most (113, #[.pointer (some ⟨c0, 0, none⟩), .pointer (some ⟨c1, 0, none⟩)]) (removeP (seg s.data.toList n)) := by
  have hfo : Tryz.prog.follows .mixedOrders = true := by kernel_rfl
  refine ⟨enters_of Tryz.func113 (by kernel_rfl) rfl, fun S F L => by unfold removeP; exact removeS_wr _ _ _, fun S F L => Nat.le_trans (Nat.le_succ _) (Nat.le_max_left _ _), fun S F L W hlt hw hrl => ?_⟩
  obtain ⟨D1, T1, h1, hcel, hslt, hback⟩ := hlt.open
  obtain ⟨b0, d0, t0⟩ := hcel _ _ q0 e0
  obtain ⟨b1, d1, t1⟩ := hcel _ _ q1 e1
  obtain ⟨vs, vr, hb, ht, hsl, hro⟩ := h1.log
  have dg : ¬ D1 g := fun e => h1.sep g e ht
  have HC := Lib.hid (fun X (k : Keep D1 W X) => And.intro (k.cell b0 d0) (And.intro (k.cell b1 d1) (k.cell (p := ⟨g, 0, none⟩) (u := .pointer (some ⟨p, 0, none⟩)) (by rw [hb.cell]; rfl) dg)))
  have HF := Lib.hid (fun X (k : Keep D1 W X) => file_any g s n hn hsz X (k.cell (p := ⟨g, 1, none⟩) (u := .string s) (by rw [hb.cell]; rfl) dg) (h1.ld.keep k h1.fd))
  have HW := Lib.hid h1
  have HBK := Lib.hid hback
  obtain ⟨rp, hrp⟩ : ∃ rp, rp = (removeP (seg s.data.toList n)) S F L := ⟨_, rfl⟩
  rw [← hrp]
  have HRP := Lib.hid hrp
  clear hrp hlt hcel hslt hback hb ht hsl hro dg h1 b0 d0 t0 b1 d1 t1
  go_enter Tryz.func113, Tryz.ntmps113
  go_wp2_with fail
  have HBZ := Lib.hid (show Below W.heap.size W W.drew from (Below.refl _ _).drew)
  have HB := Lib.hid (show ∀ X, Keep D1 W.drew X → Keep D1 W X from fun X hX => (Keep.of_below ((Below.refl _ _).drew)).trans hX (fun _ h => h) (fun _ _ h => h))
  refine wp_region_held_drew (S := fun X => Keep D1 W.drew X) hfo (Keep.refl _ _) (fun hS0 => ?_)
  generalize W.drew = Z0 at hS0 HB HBZ ⊢
  refine' wpAnyH_take (i := 0) (oi := ⟨some 4, _, _, _, _, _⟩) (v := _) rfl (by kernel_rfl) (by kernel_rfl) (by kernel_rfl) (fun _ _ _ h => h) (Or.inl ⟨by rfl, ?y0⟩) hS0 ?r0
  case y0 => (intro w' hSw; obtain ⟨s0, s1, s2⟩ := HC.out w' (HB.out w' hSw); go_simp; try rfl)
  try simp only [Act.put, List.setIfInBounds_toArray, List.set_cons_zero, List.set_cons_succ]
  refine' wpAnyH_take (i := 1) (oi := ⟨some 5, _, _, _, _, _⟩) (v := _) rfl (by kernel_rfl) (by kernel_rfl) (by kernel_rfl) (fun _ _ _ h => h) (Or.inl ⟨by rfl, ?y1⟩) hS0 ?r1
  case y1 => (intro w' hSw; obtain ⟨s0, s1, s2⟩ := HC.out w' (HB.out w' hSw); go_simp; try rfl)
  try simp only [Act.put, List.setIfInBounds_toArray, List.set_cons_zero, List.set_cons_succ]
  refine' wpAnyH_take (i := 2) (oi := ⟨some 6, _, _, _, _, _⟩) (v := _) rfl (by kernel_rfl) (by kernel_rfl) (by kernel_rfl) (fun _ _ _ h => h) (Or.inl ⟨by rfl, ?y2⟩) hS0 ?r2
  case y2 => (intro w' hSw; obtain ⟨s0, s1, s2⟩ := HC.out w' (HB.out w' hSw); go_simp; try rfl)
  try simp only [Act.put, List.setIfInBounds_toArray, List.set_cons_zero, List.set_cons_succ]
  refine' wpAnyH_take (i := 3) (oi := ⟨some 7, _, _, _, _, _⟩) (v := _) rfl (by kernel_rfl) (by kernel_rfl) (by kernel_rfl) (fun _ _ _ h => h) (Or.inl ⟨by rfl, ?y3⟩) hS0 ?r3
  case y3 => (intro w' hSw; obtain ⟨s0, s1, s2⟩ := HC.out w' (HB.out w' hSw); go_simp; try rfl)
  try simp only [Act.put, List.setIfInBounds_toArray, List.set_cons_zero, List.set_cons_succ]
  refine' wpAnyH_take (i := 4) (oi := ⟨some 8, _, _, _, _, _⟩) (v := _) rfl (by kernel_rfl) (by kernel_rfl) (by kernel_rfl) (fun _ _ _ h => h) (Or.inl ⟨by rfl, ?y4⟩) hS0 ?r4
  case y4 => (intro w' hSw; obtain ⟨s0, s1, s2⟩ := HC.out w' (HB.out w' hSw); go_simp; try rfl)
  try simp only [Act.put, List.setIfInBounds_toArray, List.set_cons_zero, List.set_cons_succ]
  refine' wpAnyH_take (i := 5) (oi := ⟨some 9, _, _, _, _, _⟩) (v := _) rfl (by kernel_rfl) (by kernel_rfl) (by kernel_rfl) (fun _ _ _ h => h) (Or.inl ⟨by rfl, ?y5⟩) hS0 ?r5
  case y5 => (intro w' hSw; obtain ⟨s0, s1, s2⟩ := HC.out w' (HB.out w' hSw); go_simp; try rfl)
  try simp only [Act.put, List.setIfInBounds_toArray, List.set_cons_zero, List.set_cons_succ]
  refine held_one (i := 6) (by kernel_rfl) rfl (fun K hK => ?_)
  go_simp
  refine (HF.out _ (HB.out _ hS0)).mono ?_
  rintro e Z1 ⟨rfl, hz⟩
  have hS1 := hS0.trans (Keep.of_below hz) (fun _ h => h) (fun _ _ h => h)
  have HBZ1 := Lib.hid (HBZ.out.trans (hz.mono HBZ.out.size))
  refine hK.out _ _ hS1 (fun _ => ?_)
  clear hK K
  try simp only [Act.put, List.setIfInBounds_toArray, List.set_cons_zero, List.set_cons_succ]
  refine held_one (i := 7) (by kernel_rfl) rfl (fun K hK => ?_)
  go_simp
  refine (mx_remove (HW.out.disk.below HBZ1.out) hw (segS s n)).mono ?_
  rintro e Z2 ⟨rfl, hm, hk⟩
  have hS2 := keep_wr hS1 hk
  have HEND := Lib.hid (HBK.out _ _ _ _ (wrote_end HW.out HBZ1.out hm hk))
  clear hm hk
  refine hK.out _ _ hS2 (fun _ => ?_)
  clear hK K
  try simp only [Act.put, List.setIfInBounds_toArray, List.set_cons_zero, List.set_cons_succ]
  refine' wpAnyH_take (i := 8) (oi := ⟨some 3, _, _, _, _, _⟩) (v := _) rfl (by kernel_rfl) (by kernel_rfl) (by kernel_rfl) (fun _ _ _ h => h) (Or.inl ⟨by rfl, ?y8⟩) hS2 ?r8
  case y8 => (intro w' hSw; obtain ⟨s0, s1, s2⟩ := HC.out w' (HB.out w' hSw); go_simp; try rfl)
  try simp only [Act.put, List.setIfInBounds_toArray, List.set_cons_zero, List.set_cons_succ]
  refine wpAnyH_done (by kernel_rfl) ?_ _
  clear HB HC HW HBK HF
  have hrp := HRP.out
  unfold removeP at hrp
  rw [← segS_list] at hrp
  generalize removeS S F (segS s n).data.toList = r at HEND hrp ⊢
  by_cases h6 : r.1 = 6
  · have hb6 : (r.1 == 6) = true := by rw [h6]; rfl
    rw [if_pos h6] at hrp
    have HRQ := Lib.hid hrp
    clear hrp h6
    go_wp2
    go_ret
    rw [HRQ.out]
    exact ⟨rfl, HEND.out⟩
  · have hb6 : (r.1 == 6) = false := by rw [beq_eq_false_iff_ne]; exact h6
    rw [if_neg h6] at hrp
    have HRQ := Lib.hid hrp
    clear hrp h6
    go_wp2
    go_ret
    rw [HRQ.out]
    exact ⟨rfl, HEND.out⟩
set_option maxHeartbeats 1000000 in
theorem appNow_step (c0 c1 : Nat) (An : Option Addr) (nn cn : Nat) (rec : List UInt8) (q0 : w.cell? ⟨c0, 0, none⟩ = some (.pointer (some ⟨g, 0, none⟩))) (e0 : ¬ (D c0 ∨ T c0)) (q1 : w.cell? ⟨c1, 0, none⟩ = some (.slice An nn cn)) (e1 : ¬ (D c1 ∨ T c1)) (hrec : SlT (fun k => ¬ D k ∧ ¬ T k) w (.slice An nn cn) rec) (hsz : s.size ≤ 1000000) :
    StepOk D T w g p s most (59, #[.pointer (some ⟨c0, 0, none⟩), .pointer (some ⟨c1, 0, none⟩)]) (appendNowP s rec) := by
  have hfo : Tryz.prog.follows .mixedOrders = true := by kernel_rfl
  refine ⟨enters_of Tryz.func59 (by kernel_rfl) rfl, fun S F L => appendS_wr _ _ _ _, fun S F L => Nat.le_trans (Nat.le_succ _) (Nat.le_max_left _ _), fun S F L W hlt hw hrl => ?_⟩
  obtain ⟨D1, T1, h1, hcel, hslt, hback⟩ := hlt.open
  obtain ⟨b0, d0, t0⟩ := hcel _ _ q0 e0
  obtain ⟨b1, d1, t1⟩ := hcel _ _ q1 e1
  obtain ⟨vs, vr, hb, ht, hsl, hro⟩ := h1.log
  have dg : ¬ D1 g := fun e => h1.sep g e ht
  have HC := Lib.hid (fun X (k : Keep D1 W X) => And.intro (k.cell b0 d0) (And.intro (k.cell b1 d1) (And.intro (k.cell (p := ⟨g, 0, none⟩) (u := .pointer (some ⟨p, 0, none⟩)) (by rw [hb.cell]; rfl) dg) (k.cell (p := ⟨g, 3, none⟩) (u := .int .i64 (L.num : Int)) (by rw [hb.cell]; rfl) dg))))
  have HF := Lib.hid (fun X (k : Keep D1 W X) => file_any g s L.num (by have := h1.nb; omega) hsz X (k.cell (p := ⟨g, 1, none⟩) (u := .string s) (by rw [hb.cell]; rfl) dg) (h1.ld.keep k h1.fd))
  have HW := Lib.hid h1
  have HBK := Lib.hid hback
  obtain ⟨rp, hrp⟩ : ∃ rp, rp = (appendNowP s rec) S F L := ⟨_, rfl⟩
  rw [← hrp]
  have HRP := Lib.hid hrp
  have HSL := Lib.hid (fun X (hbx : Below W.heap.size W X) => (hslt _ _ hrec).sl.below hbx)
  have hnum := h1.nb

  clear hrp hlt hcel hslt hback hb ht hsl hro dg h1 b0 d0 t0 b1 d1 t1
  go_enter Tryz.func59, Tryz.ntmps59
  go_wp2_with fail
  have HBZ := Lib.hid (show Below W.heap.size W W.drew from (Below.refl _ _).drew)
  have HB := Lib.hid (show ∀ X, Keep D1 W.drew X → Keep D1 W X from fun X hX => (Keep.of_below ((Below.refl _ _).drew)).trans hX (fun _ h => h) (fun _ _ h => h))
  refine wp_region_held_drew (S := fun X => Keep D1 W.drew X) hfo (Keep.refl _ _) (fun hS0 => ?_)
  generalize W.drew = Z0 at hS0 HB HBZ ⊢
  refine' wpAnyH_take (i := 0) (oi := ⟨some 3, _, _, _, _, _⟩) (v := _) rfl (by kernel_rfl) (by kernel_rfl) (by kernel_rfl) (fun _ _ _ h => h) (Or.inl ⟨by rfl, ?y0⟩) hS0 ?r0
  case y0 => (intro w' hSw; obtain ⟨s0, s1, s2, s3⟩ := HC.out w' (HB.out w' hSw); go_simp; try rfl)
  try simp only [Act.put, List.setIfInBounds_toArray, List.set_cons_zero, List.set_cons_succ]
  refine' wpAnyH_take (i := 1) (oi := ⟨some 4, _, _, _, _, _⟩) (v := _) rfl (by kernel_rfl) (by kernel_rfl) (by kernel_rfl) (fun _ _ _ h => h) (Or.inl ⟨by rfl, ?y1⟩) hS0 ?r1
  case y1 => (intro w' hSw; obtain ⟨s0, s1, s2, s3⟩ := HC.out w' (HB.out w' hSw); go_simp; try rfl)
  try simp only [Act.put, List.setIfInBounds_toArray, List.set_cons_zero, List.set_cons_succ]
  refine' wpAnyH_take (i := 2) (oi := ⟨some 5, _, _, _, _, _⟩) (v := _) rfl (by kernel_rfl) (by kernel_rfl) (by kernel_rfl) (fun _ _ _ h => h) (Or.inl ⟨by rfl, ?y2⟩) hS0 ?r2
  case y2 => (intro w' hSw; obtain ⟨s0, s1, s2, s3⟩ := HC.out w' (HB.out w' hSw); go_simp; try rfl)
  try simp only [Act.put, List.setIfInBounds_toArray, List.set_cons_zero, List.set_cons_succ]
  refine' wpAnyH_take (i := 3) (oi := ⟨some 6, _, _, _, _, _⟩) (v := _) rfl (by kernel_rfl) (by kernel_rfl) (by kernel_rfl) (fun _ _ _ h => h) (Or.inl ⟨by rfl, ?y3⟩) hS0 ?r3
  case y3 => (intro w' hSw; obtain ⟨s0, s1, s2, s3⟩ := HC.out w' (HB.out w' hSw); go_simp; try rfl)
  try simp only [Act.put, List.setIfInBounds_toArray, List.set_cons_zero, List.set_cons_succ]
  refine' wpAnyH_take (i := 4) (oi := ⟨some 7, _, _, _, _, _⟩) (v := _) rfl (by kernel_rfl) (by kernel_rfl) (by kernel_rfl) (fun _ _ _ h => h) (Or.inl ⟨by rfl, ?y4⟩) hS0 ?r4
  case y4 => (intro w' hSw; obtain ⟨s0, s1, s2, s3⟩ := HC.out w' (HB.out w' hSw); go_simp; try rfl)
  try simp only [Act.put, List.setIfInBounds_toArray, List.set_cons_zero, List.set_cons_succ]
  refine' wpAnyH_take (i := 5) (oi := ⟨some 8, _, _, _, _, _⟩) (v := _) rfl (by kernel_rfl) (by kernel_rfl) (by kernel_rfl) (fun _ _ _ h => h) (Or.inl ⟨by rfl, ?y5⟩) hS0 ?r5
  case y5 => (intro w' hSw; obtain ⟨s0, s1, s2, s3⟩ := HC.out w' (HB.out w' hSw); go_simp; try rfl)
  try simp only [Act.put, List.setIfInBounds_toArray, List.set_cons_zero, List.set_cons_succ]
  refine' wpAnyH_take (i := 6) (oi := ⟨some 9, _, _, _, _, _⟩) (v := _) rfl (by kernel_rfl) (by kernel_rfl) (by kernel_rfl) (fun _ _ _ h => h) (Or.inl ⟨by rfl, ?y6⟩) hS0 ?r6
  case y6 => (intro w' hSw; obtain ⟨s0, s1, s2, s3⟩ := HC.out w' (HB.out w' hSw); go_simp; try rfl)
  try simp only [Act.put, List.setIfInBounds_toArray, List.set_cons_zero, List.set_cons_succ]
  refine' wpAnyH_take (i := 7) (oi := ⟨some 10, _, _, _, _, _⟩) (v := _) rfl (by kernel_rfl) (by kernel_rfl) (by kernel_rfl) (fun _ _ _ h => h) (Or.inl ⟨by rfl, ?y7⟩) hS0 ?r7
  case y7 => (intro w' hSw; obtain ⟨s0, s1, s2, s3⟩ := HC.out w' (HB.out w' hSw); go_simp; try rfl)
  try simp only [Act.put, List.setIfInBounds_toArray, List.set_cons_zero, List.set_cons_succ]
  refine' wpAnyH_take (i := 8) (oi := ⟨some 11, _, _, _, _, _⟩) (v := _) rfl (by kernel_rfl) (by kernel_rfl) (by kernel_rfl) (fun _ _ _ h => h) (Or.inl ⟨by rfl, ?y8⟩) hS0 ?r8
  case y8 => (intro w' hSw; obtain ⟨s0, s1, s2, s3⟩ := HC.out w' (HB.out w' hSw); go_simp; try rfl)
  try simp only [Act.put, List.setIfInBounds_toArray, List.set_cons_zero, List.set_cons_succ]
  refine' wpAnyH_take (i := 9) (oi := ⟨some 12, _, _, _, _, _⟩) (v := _) rfl (by kernel_rfl) (by kernel_rfl) (by kernel_rfl) (fun _ _ _ h => h) (Or.inl ⟨by rfl, ?y9⟩) hS0 ?r9
  case y9 => (intro w' hSw; obtain ⟨s0, s1, s2, s3⟩ := HC.out w' (HB.out w' hSw); go_simp; try rfl)
  try simp only [Act.put, List.setIfInBounds_toArray, List.set_cons_zero, List.set_cons_succ]
  refine' wpAnyH_take (i := 11) (oi := ⟨some 14, _, _, _, _, _⟩) (v := _) rfl (by kernel_rfl) (by kernel_rfl) (by kernel_rfl) (fun _ _ _ h => h) (Or.inl ⟨by rfl, ?y11⟩) hS0 ?r11
  case y11 => (intro w' hSw; obtain ⟨s0, s1, s2, s3⟩ := HC.out w' (HB.out w' hSw); go_simp; try rfl)
  try simp only [Act.put, List.setIfInBounds_toArray, List.set_cons_zero, List.set_cons_succ]
  refine held_one (i := 10) (by kernel_rfl) rfl (fun K hK => ?_)
  go_simp
  refine (HF.out _ (HB.out _ hS0)).mono ?_
  rintro e Z1 ⟨rfl, hz⟩
  have hS1 := hS0.trans (Keep.of_below hz) (fun _ h => h) (fun _ _ h => h)
  have HBZ1 := Lib.hid (HBZ.out.trans (hz.mono HBZ.out.size))
  refine hK.out _ _ hS1 (fun _ => ?_)
  clear hK K
  try simp only [Act.put, List.setIfInBounds_toArray, List.set_cons_zero, List.set_cons_succ]
  refine held_one (i := 12) (by kernel_rfl) rfl (fun K hK => ?_)
  go_simp
  refine (mx_append (HW.out.disk.below HBZ1.out) hw (segS s L.num) (.slice An nn cn) rec (HSL.out _ HBZ1.out)).mono ?_
  rintro e Z2 ⟨rfl, hm, hk⟩
  have hS2 := keep_wr hS1 hk
  have HEND := Lib.hid (HBK.out _ _ _ _ (wrote_end HW.out HBZ1.out hm hk))
  clear hm hk
  refine hK.out _ _ hS2 (fun _ => ?_)
  clear hK K
  try simp only [Act.put, List.setIfInBounds_toArray, List.set_cons_zero, List.set_cons_succ]
  refine' wpAnyH_take (i := 13) (oi := ⟨some 2, _, _, _, _, _⟩) (v := _) rfl (by kernel_rfl) (by kernel_rfl) (by kernel_rfl) (fun _ _ _ h => h) (Or.inl ⟨by rfl, ?y13⟩) hS2 ?r13
  case y13 => (intro w' hSw; obtain ⟨s0, s1, s2, s3⟩ := HC.out w' (HB.out w' hSw); go_simp; try rfl)
  try simp only [Act.put, List.setIfInBounds_toArray, List.set_cons_zero, List.set_cons_succ]
  refine wpAnyH_done (by kernel_rfl) ?_ _
  clear HB HC HW HBK HF
  rw [segS_list] at HEND
  try rw [segS_list]
  go_wp2
  go_ret
  rw [HRP.out]
  exact ⟨rfl, HEND.out⟩
set_option maxHeartbeats 1000000 in
theorem syncNow_step (c0 : Nat) (q0 : w.cell? ⟨c0, 0, none⟩ = some (.pointer (some ⟨g, 0, none⟩))) (e0 : ¬ (D c0 ∨ T c0)) (hsz : s.size ≤ 1000000) :
    StepOk D T w g p s most (62, #[.pointer (some ⟨c0, 0, none⟩)]) (syncNowP s) := by
  have hfo : Tryz.prog.follows .mixedOrders = true := by kernel_rfl
  refine ⟨enters_of Tryz.func62 (by kernel_rfl) rfl, fun S F L => syncS_wr _ _ _, fun S F L => Nat.le_trans (Nat.le_succ _) (Nat.le_max_left _ _), fun S F L W hlt hw hrl => ?_⟩
  obtain ⟨D1, T1, h1, hcel, hslt, hback⟩ := hlt.open
  obtain ⟨b0, d0, t0⟩ := hcel _ _ q0 e0
  obtain ⟨vs, vr, hb, ht, hsl, hro⟩ := h1.log
  have dg : ¬ D1 g := fun e => h1.sep g e ht
  have HC := Lib.hid (fun X (k : Keep D1 W X) => And.intro (k.cell b0 d0) (And.intro (k.cell (p := ⟨g, 0, none⟩) (u := .pointer (some ⟨p, 0, none⟩)) (by rw [hb.cell]; rfl) dg) (k.cell (p := ⟨g, 3, none⟩) (u := .int .i64 (L.num : Int)) (by rw [hb.cell]; rfl) dg)))
  have HF := Lib.hid (fun X (k : Keep D1 W X) => file_any g s L.num (by have := h1.nb; omega) hsz X (k.cell (p := ⟨g, 1, none⟩) (u := .string s) (by rw [hb.cell]; rfl) dg) (h1.ld.keep k h1.fd))
  have HW := Lib.hid h1
  have HBK := Lib.hid hback
  obtain ⟨rp, hrp⟩ : ∃ rp, rp = (syncNowP s) S F L := ⟨_, rfl⟩
  rw [← hrp]
  have HRP := Lib.hid hrp
  clear hrp hlt hcel hslt hback hb ht hsl hro dg h1 b0 d0 t0
  go_enter Tryz.func62, Tryz.ntmps62
  go_wp2_with fail
  have HBZ := Lib.hid (show Below W.heap.size W W.drew from (Below.refl _ _).drew)
  have HB := Lib.hid (show ∀ X, Keep D1 W.drew X → Keep D1 W X from fun X hX => (Keep.of_below ((Below.refl _ _).drew)).trans hX (fun _ h => h) (fun _ _ h => h))
  refine wp_region_held_drew (S := fun X => Keep D1 W.drew X) hfo (Keep.refl _ _) (fun hS0 => ?_)
  generalize W.drew = Z0 at hS0 HB HBZ ⊢
  refine' wpAnyH_take (i := 0) (oi := ⟨some 2, _, _, _, _, _⟩) (v := _) rfl (by kernel_rfl) (by kernel_rfl) (by kernel_rfl) (fun _ _ _ h => h) (Or.inl ⟨by rfl, ?y0⟩) hS0 ?r0
  case y0 => (intro w' hSw; obtain ⟨s0, s1, s2⟩ := HC.out w' (HB.out w' hSw); go_simp; try rfl)
  try simp only [Act.put, List.setIfInBounds_toArray, List.set_cons_zero, List.set_cons_succ]
  refine' wpAnyH_take (i := 1) (oi := ⟨some 3, _, _, _, _, _⟩) (v := _) rfl (by kernel_rfl) (by kernel_rfl) (by kernel_rfl) (fun _ _ _ h => h) (Or.inl ⟨by rfl, ?y1⟩) hS0 ?r1
  case y1 => (intro w' hSw; obtain ⟨s0, s1, s2⟩ := HC.out w' (HB.out w' hSw); go_simp; try rfl)
  try simp only [Act.put, List.setIfInBounds_toArray, List.set_cons_zero, List.set_cons_succ]
  refine' wpAnyH_take (i := 2) (oi := ⟨some 4, _, _, _, _, _⟩) (v := _) rfl (by kernel_rfl) (by kernel_rfl) (by kernel_rfl) (fun _ _ _ h => h) (Or.inl ⟨by rfl, ?y2⟩) hS0 ?r2
  case y2 => (intro w' hSw; obtain ⟨s0, s1, s2⟩ := HC.out w' (HB.out w' hSw); go_simp; try rfl)
  try simp only [Act.put, List.setIfInBounds_toArray, List.set_cons_zero, List.set_cons_succ]
  refine' wpAnyH_take (i := 3) (oi := ⟨some 5, _, _, _, _, _⟩) (v := _) rfl (by kernel_rfl) (by kernel_rfl) (by kernel_rfl) (fun _ _ _ h => h) (Or.inl ⟨by rfl, ?y3⟩) hS0 ?r3
  case y3 => (intro w' hSw; obtain ⟨s0, s1, s2⟩ := HC.out w' (HB.out w' hSw); go_simp; try rfl)
  try simp only [Act.put, List.setIfInBounds_toArray, List.set_cons_zero, List.set_cons_succ]
  refine' wpAnyH_take (i := 4) (oi := ⟨some 6, _, _, _, _, _⟩) (v := _) rfl (by kernel_rfl) (by kernel_rfl) (by kernel_rfl) (fun _ _ _ h => h) (Or.inl ⟨by rfl, ?y4⟩) hS0 ?r4
  case y4 => (intro w' hSw; obtain ⟨s0, s1, s2⟩ := HC.out w' (HB.out w' hSw); go_simp; try rfl)
  try simp only [Act.put, List.setIfInBounds_toArray, List.set_cons_zero, List.set_cons_succ]
  refine' wpAnyH_take (i := 5) (oi := ⟨some 7, _, _, _, _, _⟩) (v := _) rfl (by kernel_rfl) (by kernel_rfl) (by kernel_rfl) (fun _ _ _ h => h) (Or.inl ⟨by rfl, ?y5⟩) hS0 ?r5
  case y5 => (intro w' hSw; obtain ⟨s0, s1, s2⟩ := HC.out w' (HB.out w' hSw); go_simp; try rfl)
  try simp only [Act.put, List.setIfInBounds_toArray, List.set_cons_zero, List.set_cons_succ]
  refine' wpAnyH_take (i := 6) (oi := ⟨some 8, _, _, _, _, _⟩) (v := _) rfl (by kernel_rfl) (by kernel_rfl) (by kernel_rfl) (fun _ _ _ h => h) (Or.inl ⟨by rfl, ?y6⟩) hS0 ?r6
  case y6 => (intro w' hSw; obtain ⟨s0, s1, s2⟩ := HC.out w' (HB.out w' hSw); go_simp; try rfl)
  try simp only [Act.put, List.setIfInBounds_toArray, List.set_cons_zero, List.set_cons_succ]
  refine' wpAnyH_take (i := 7) (oi := ⟨some 9, _, _, _, _, _⟩) (v := _) rfl (by kernel_rfl) (by kernel_rfl) (by kernel_rfl) (fun _ _ _ h => h) (Or.inl ⟨by rfl, ?y7⟩) hS0 ?r7
  case y7 => (intro w' hSw; obtain ⟨s0, s1, s2⟩ := HC.out w' (HB.out w' hSw); go_simp; try rfl)
  try simp only [Act.put, List.setIfInBounds_toArray, List.set_cons_zero, List.set_cons_succ]
  refine' wpAnyH_take (i := 8) (oi := ⟨some 10, _, _, _, _, _⟩) (v := _) rfl (by kernel_rfl) (by kernel_rfl) (by kernel_rfl) (fun _ _ _ h => h) (Or.inl ⟨by rfl, ?y8⟩) hS0 ?r8
  case y8 => (intro w' hSw; obtain ⟨s0, s1, s2⟩ := HC.out w' (HB.out w' hSw); go_simp; try rfl)
  try simp only [Act.put, List.setIfInBounds_toArray, List.set_cons_zero, List.set_cons_succ]
  refine' wpAnyH_take (i := 9) (oi := ⟨some 11, _, _, _, _, _⟩) (v := _) rfl (by kernel_rfl) (by kernel_rfl) (by kernel_rfl) (fun _ _ _ h => h) (Or.inl ⟨by rfl, ?y9⟩) hS0 ?r9
  case y9 => (intro w' hSw; obtain ⟨s0, s1, s2⟩ := HC.out w' (HB.out w' hSw); go_simp; try rfl)
  try simp only [Act.put, List.setIfInBounds_toArray, List.set_cons_zero, List.set_cons_succ]
  refine held_one (i := 10) (by kernel_rfl) rfl (fun K hK => ?_)
  go_simp
  refine (HF.out _ (HB.out _ hS0)).mono ?_
  rintro e Z1 ⟨rfl, hz⟩
  have hS1 := hS0.trans (Keep.of_below hz) (fun _ h => h) (fun _ _ h => h)
  have HBZ1 := Lib.hid (HBZ.out.trans (hz.mono HBZ.out.size))
  refine hK.out _ _ hS1 (fun _ => ?_)
  clear hK K
  try simp only [Act.put, List.setIfInBounds_toArray, List.set_cons_zero, List.set_cons_succ]
  refine held_one (i := 11) (by kernel_rfl) rfl (fun K hK => ?_)
  go_simp
  refine (mx_sync (HW.out.disk.below HBZ1.out) hw (segS s L.num)).mono ?_
  rintro e Z2 ⟨rfl, hm, hk⟩
  have hS2 := keep_wr hS1 hk
  have HEND := Lib.hid (HBK.out _ _ _ _ (wrote_end HW.out HBZ1.out hm hk))
  clear hm hk
  refine hK.out _ _ hS2 (fun _ => ?_)
  clear hK K
  try simp only [Act.put, List.setIfInBounds_toArray, List.set_cons_zero, List.set_cons_succ]
  refine' wpAnyH_take (i := 12) (oi := ⟨some 1, _, _, _, _, _⟩) (v := _) rfl (by kernel_rfl) (by kernel_rfl) (by kernel_rfl) (fun _ _ _ h => h) (Or.inl ⟨by rfl, ?y12⟩) hS2 ?r12
  case y12 => (intro w' hSw; obtain ⟨s0, s1, s2⟩ := HC.out w' (HB.out w' hSw); go_simp; try rfl)
  try simp only [Act.put, List.setIfInBounds_toArray, List.set_cons_zero, List.set_cons_succ]
  refine wpAnyH_done (by kernel_rfl) ?_ _
  clear HB HC HW HBK HF
  rw [segS_list] at HEND
  try rw [segS_list]
  go_wp2
  go_ret
  rw [HRP.out]
  exact ⟨rfl, HEND.out⟩
set_option maxHeartbeats 1000000 in
theorem bapp_step (c0 c1 c2 : Nat) (f : ByteArray) (An : Option Addr) (nn cn : Nat) (rec : List UInt8) (q0 : w.cell? ⟨c0, 0, none⟩ = some (.pointer (some ⟨g, 0, none⟩))) (e0 : ¬ (D c0 ∨ T c0)) (q1 : w.cell? ⟨c1, 0, none⟩ = some (.string f)) (e1 : ¬ (D c1 ∨ T c1)) (q2 : w.cell? ⟨c2, 0, none⟩ = some (.slice An nn cn)) (e2 : ¬ (D c2 ∨ T c2)) (hrec : SlT (fun k => ¬ D k ∧ ¬ T k) w (.slice An nn cn) rec) :
    StepOk D T w g p s most (110, #[.pointer (some ⟨c0, 0, none⟩), .pointer (some ⟨c1, 0, none⟩), .pointer (some ⟨c2, 0, none⟩)]) (wrP fun S F => appendS S F f.data.toList rec) := by
  have hfo : Tryz.prog.follows .mixedOrders = true := by kernel_rfl
  refine ⟨enters_of Tryz.func110 (by kernel_rfl) rfl, fun S F L => appendS_wr _ _ _ _, fun S F L => Nat.le_trans (Nat.le_succ _) (Nat.le_max_left _ _), fun S F L W hlt hw hrl => ?_⟩
  obtain ⟨D1, T1, h1, hcel, hslt, hback⟩ := hlt.open
  obtain ⟨b0, d0, t0⟩ := hcel _ _ q0 e0
  obtain ⟨b1, d1, t1⟩ := hcel _ _ q1 e1
  obtain ⟨b2, d2, t2⟩ := hcel _ _ q2 e2
  obtain ⟨vs, vr, hb, ht, hsl, hro⟩ := h1.log
  have dg : ¬ D1 g := fun e => h1.sep g e ht
  have HC := Lib.hid (fun X (k : Keep D1 W X) => And.intro (k.cell b0 d0) (And.intro (k.cell b1 d1) (And.intro (k.cell b2 d2) (k.cell (p := ⟨g, 0, none⟩) (u := .pointer (some ⟨p, 0, none⟩)) (by rw [hb.cell]; rfl) dg))))
  have HW := Lib.hid h1
  have HBK := Lib.hid hback
  obtain ⟨rp, hrp⟩ : ∃ rp, rp = (wrP fun S F => appendS S F f.data.toList rec) S F L := ⟨_, rfl⟩
  rw [← hrp]
  have HRP := Lib.hid hrp
  have HSL := Lib.hid (fun X (hbx : Below W.heap.size W X) => (hslt _ _ hrec).sl.below hbx)
  have hnum := h1.nb

  clear hrp hlt hcel hslt hback hb ht hsl hro dg h1 b0 d0 t0 b1 d1 t1 b2 d2 t2
  go_enter Tryz.func110, Tryz.ntmps110
  go_wp2_with fail
  have HBZ := Lib.hid (show Below W.heap.size W W.drew from (Below.refl _ _).drew)
  have HB := Lib.hid (show ∀ X, Keep D1 W.drew X → Keep D1 W X from fun X hX => (Keep.of_below ((Below.refl _ _).drew)).trans hX (fun _ h => h) (fun _ _ h => h))
  refine wp_region_held_drew (S := fun X => Keep D1 W.drew X) hfo (Keep.refl _ _) (fun hS0 => ?_)
  generalize W.drew = Z0 at hS0 HB HBZ ⊢
  refine' wpAnyH_take (i := 0) (oi := ⟨some 4, _, _, _, _, _⟩) (v := _) rfl (by kernel_rfl) (by kernel_rfl) (by kernel_rfl) (fun _ _ _ h => h) (Or.inl ⟨by rfl, ?y0⟩) hS0 ?r0
  case y0 => (intro w' hSw; obtain ⟨s0, s1, s2, s3⟩ := HC.out w' (HB.out w' hSw); go_simp; try rfl)
  try simp only [Act.put, List.setIfInBounds_toArray, List.set_cons_zero, List.set_cons_succ]
  refine' wpAnyH_take (i := 1) (oi := ⟨some 5, _, _, _, _, _⟩) (v := _) rfl (by kernel_rfl) (by kernel_rfl) (by kernel_rfl) (fun _ _ _ h => h) (Or.inl ⟨by rfl, ?y1⟩) hS0 ?r1
  case y1 => (intro w' hSw; obtain ⟨s0, s1, s2, s3⟩ := HC.out w' (HB.out w' hSw); go_simp; try rfl)
  try simp only [Act.put, List.setIfInBounds_toArray, List.set_cons_zero, List.set_cons_succ]
  refine' wpAnyH_take (i := 2) (oi := ⟨some 6, _, _, _, _, _⟩) (v := _) rfl (by kernel_rfl) (by kernel_rfl) (by kernel_rfl) (fun _ _ _ h => h) (Or.inl ⟨by rfl, ?y2⟩) hS0 ?r2
  case y2 => (intro w' hSw; obtain ⟨s0, s1, s2, s3⟩ := HC.out w' (HB.out w' hSw); go_simp; try rfl)
  try simp only [Act.put, List.setIfInBounds_toArray, List.set_cons_zero, List.set_cons_succ]
  refine' wpAnyH_take (i := 3) (oi := ⟨some 7, _, _, _, _, _⟩) (v := _) rfl (by kernel_rfl) (by kernel_rfl) (by kernel_rfl) (fun _ _ _ h => h) (Or.inl ⟨by rfl, ?y3⟩) hS0 ?r3
  case y3 => (intro w' hSw; obtain ⟨s0, s1, s2, s3⟩ := HC.out w' (HB.out w' hSw); go_simp; try rfl)
  try simp only [Act.put, List.setIfInBounds_toArray, List.set_cons_zero, List.set_cons_succ]
  refine' wpAnyH_take (i := 4) (oi := ⟨some 8, _, _, _, _, _⟩) (v := _) rfl (by kernel_rfl) (by kernel_rfl) (by kernel_rfl) (fun _ _ _ h => h) (Or.inl ⟨by rfl, ?y4⟩) hS0 ?r4
  case y4 => (intro w' hSw; obtain ⟨s0, s1, s2, s3⟩ := HC.out w' (HB.out w' hSw); go_simp; try rfl)
  try simp only [Act.put, List.setIfInBounds_toArray, List.set_cons_zero, List.set_cons_succ]
  refine' wpAnyH_take (i := 5) (oi := ⟨some 9, _, _, _, _, _⟩) (v := _) rfl (by kernel_rfl) (by kernel_rfl) (by kernel_rfl) (fun _ _ _ h => h) (Or.inl ⟨by rfl, ?y5⟩) hS0 ?r5
  case y5 => (intro w' hSw; obtain ⟨s0, s1, s2, s3⟩ := HC.out w' (HB.out w' hSw); go_simp; try rfl)
  try simp only [Act.put, List.setIfInBounds_toArray, List.set_cons_zero, List.set_cons_succ]
  refine held_one (i := 6) (by kernel_rfl) rfl (fun K hK => ?_)
  go_simp
  refine (mx_append (HW.out.disk.below HBZ.out) hw f (.slice An nn cn) rec (HSL.out _ HBZ.out)).mono ?_
  rintro e Z1 ⟨rfl, hm, hk⟩
  have hS1 := keep_wr hS0 hk
  have HEND := Lib.hid (HBK.out _ _ _ _ (wrote_end HW.out HBZ.out hm hk))
  clear hm hk
  refine hK.out _ _ hS1 (fun _ => ?_)
  clear hK K
  try simp only [Act.put, List.setIfInBounds_toArray, List.set_cons_zero, List.set_cons_succ]
  refine' wpAnyH_take (i := 7) (oi := ⟨some 3, _, _, _, _, _⟩) (v := _) rfl (by kernel_rfl) (by kernel_rfl) (by kernel_rfl) (fun _ _ _ h => h) (Or.inl ⟨by rfl, ?y7⟩) hS1 ?r7
  case y7 => (intro w' hSw; obtain ⟨s0, s1, s2, s3⟩ := HC.out w' (HB.out w' hSw); go_simp; try rfl)
  try simp only [Act.put, List.setIfInBounds_toArray, List.set_cons_zero, List.set_cons_succ]
  refine wpAnyH_done (by kernel_rfl) ?_ _
  clear HB HC HW HBK
  go_wp2
  go_ret
  rw [HRP.out]
  exact ⟨rfl, HEND.out⟩
set_option maxHeartbeats 1000000 in
theorem bsync_step (c0 c1 : Nat) (f : ByteArray) (q0 : w.cell? ⟨c0, 0, none⟩ = some (.pointer (some ⟨g, 0, none⟩))) (e0 : ¬ (D c0 ∨ T c0)) (q1 : w.cell? ⟨c1, 0, none⟩ = some (.string f)) (e1 : ¬ (D c1 ∨ T c1))  :
    StepOk D T w g p s most (111, #[.pointer (some ⟨c0, 0, none⟩), .pointer (some ⟨c1, 0, none⟩)]) (wrP fun S F => syncS S F f.data.toList) := by
  have hfo : Tryz.prog.follows .mixedOrders = true := by kernel_rfl
  refine ⟨enters_of Tryz.func111 (by kernel_rfl) rfl, fun S F L => syncS_wr _ _ _, fun S F L => Nat.le_trans (Nat.le_succ _) (Nat.le_max_left _ _), fun S F L W hlt hw hrl => ?_⟩
  obtain ⟨D1, T1, h1, hcel, hslt, hback⟩ := hlt.open
  obtain ⟨b0, d0, t0⟩ := hcel _ _ q0 e0
  obtain ⟨b1, d1, t1⟩ := hcel _ _ q1 e1
  obtain ⟨vs, vr, hb, ht, hsl, hro⟩ := h1.log
  have dg : ¬ D1 g := fun e => h1.sep g e ht
  have HC := Lib.hid (fun X (k : Keep D1 W X) => And.intro (k.cell b0 d0) (And.intro (k.cell b1 d1) (k.cell (p := ⟨g, 0, none⟩) (u := .pointer (some ⟨p, 0, none⟩)) (by rw [hb.cell]; rfl) dg)))
  have HW := Lib.hid h1
  have HBK := Lib.hid hback
  obtain ⟨rp, hrp⟩ : ∃ rp, rp = (wrP fun S F => syncS S F f.data.toList) S F L := ⟨_, rfl⟩
  rw [← hrp]
  have HRP := Lib.hid hrp
  clear hrp hlt hcel hslt hback hb ht hsl hro dg h1 b0 d0 t0 b1 d1 t1
  go_enter Tryz.func111, Tryz.ntmps111
  go_wp2_with fail
  have HBZ := Lib.hid (show Below W.heap.size W W.drew from (Below.refl _ _).drew)
  have HB := Lib.hid (show ∀ X, Keep D1 W.drew X → Keep D1 W X from fun X hX => (Keep.of_below ((Below.refl _ _).drew)).trans hX (fun _ h => h) (fun _ _ h => h))
  refine wp_region_held_drew (S := fun X => Keep D1 W.drew X) hfo (Keep.refl _ _) (fun hS0 => ?_)
  generalize W.drew = Z0 at hS0 HB HBZ ⊢
  refine' wpAnyH_take (i := 0) (oi := ⟨some 3, _, _, _, _, _⟩) (v := _) rfl (by kernel_rfl) (by kernel_rfl) (by kernel_rfl) (fun _ _ _ h => h) (Or.inl ⟨by rfl, ?y0⟩) hS0 ?r0
  case y0 => (intro w' hSw; obtain ⟨s0, s1, s2⟩ := HC.out w' (HB.out w' hSw); go_simp; try rfl)
  try simp only [Act.put, List.setIfInBounds_toArray, List.set_cons_zero, List.set_cons_succ]
  refine' wpAnyH_take (i := 1) (oi := ⟨some 4, _, _, _, _, _⟩) (v := _) rfl (by kernel_rfl) (by kernel_rfl) (by kernel_rfl) (fun _ _ _ h => h) (Or.inl ⟨by rfl, ?y1⟩) hS0 ?r1
  case y1 => (intro w' hSw; obtain ⟨s0, s1, s2⟩ := HC.out w' (HB.out w' hSw); go_simp; try rfl)
  try simp only [Act.put, List.setIfInBounds_toArray, List.set_cons_zero, List.set_cons_succ]
  refine' wpAnyH_take (i := 2) (oi := ⟨some 5, _, _, _, _, _⟩) (v := _) rfl (by kernel_rfl) (by kernel_rfl) (by kernel_rfl) (fun _ _ _ h => h) (Or.inl ⟨by rfl, ?y2⟩) hS0 ?r2
  case y2 => (intro w' hSw; obtain ⟨s0, s1, s2⟩ := HC.out w' (HB.out w' hSw); go_simp; try rfl)
  try simp only [Act.put, List.setIfInBounds_toArray, List.set_cons_zero, List.set_cons_succ]
  refine' wpAnyH_take (i := 3) (oi := ⟨some 6, _, _, _, _, _⟩) (v := _) rfl (by kernel_rfl) (by kernel_rfl) (by kernel_rfl) (fun _ _ _ h => h) (Or.inl ⟨by rfl, ?y3⟩) hS0 ?r3
  case y3 => (intro w' hSw; obtain ⟨s0, s1, s2⟩ := HC.out w' (HB.out w' hSw); go_simp; try rfl)
  try simp only [Act.put, List.setIfInBounds_toArray, List.set_cons_zero, List.set_cons_succ]
  refine' wpAnyH_take (i := 4) (oi := ⟨some 7, _, _, _, _, _⟩) (v := _) rfl (by kernel_rfl) (by kernel_rfl) (by kernel_rfl) (fun _ _ _ h => h) (Or.inl ⟨by rfl, ?y4⟩) hS0 ?r4
  case y4 => (intro w' hSw; obtain ⟨s0, s1, s2⟩ := HC.out w' (HB.out w' hSw); go_simp; try rfl)
  try simp only [Act.put, List.setIfInBounds_toArray, List.set_cons_zero, List.set_cons_succ]
  refine held_one (i := 5) (by kernel_rfl) rfl (fun K hK => ?_)
  go_simp
  refine (mx_sync (HW.out.disk.below HBZ.out) hw f).mono ?_
  rintro e Z1 ⟨rfl, hm, hk⟩
  have hS1 := keep_wr hS0 hk
  have HEND := Lib.hid (HBK.out _ _ _ _ (wrote_end HW.out HBZ.out hm hk))
  clear hm hk
  refine hK.out _ _ hS1 (fun _ => ?_)
  clear hK K
  try simp only [Act.put, List.setIfInBounds_toArray, List.set_cons_zero, List.set_cons_succ]
  refine' wpAnyH_take (i := 6) (oi := ⟨some 2, _, _, _, _, _⟩) (v := _) rfl (by kernel_rfl) (by kernel_rfl) (by kernel_rfl) (fun _ _ _ h => h) (Or.inl ⟨by rfl, ?y6⟩) hS1 ?r6
  case y6 => (intro w' hSw; obtain ⟨s0, s1, s2⟩ := HC.out w' (HB.out w' hSw); go_simp; try rfl)
  try simp only [Act.put, List.setIfInBounds_toArray, List.set_cons_zero, List.set_cons_succ]
  refine wpAnyH_done (by kernel_rfl) ?_ _
  clear HB HC HW HBK
  go_wp2
  go_ret
  rw [HRP.out]
  exact ⟨rfl, HEND.out⟩
set_option maxHeartbeats 1000000 in
theorem tsync_step (c0 c1 : Nat) (f : ByteArray) (q0 : w.cell? ⟨c0, 0, none⟩ = some (.pointer (some ⟨g, 0, none⟩))) (e0 : ¬ (D c0 ∨ T c0)) (q1 : w.cell? ⟨c1, 0, none⟩ = some (.string f)) (e1 : ¬ (D c1 ∨ T c1))  :
    StepOk D T w g p s most (136, #[.pointer (some ⟨c0, 0, none⟩), .pointer (some ⟨c1, 0, none⟩)]) (wrP fun S F => syncS S F f.data.toList) := by
  have hfo : Tryz.prog.follows .mixedOrders = true := by kernel_rfl
  refine ⟨enters_of Tryz.func136 (by kernel_rfl) rfl, fun S F L => syncS_wr _ _ _, fun S F L => Nat.le_trans (Nat.le_succ _) (Nat.le_max_left _ _), fun S F L W hlt hw hrl => ?_⟩
  obtain ⟨D1, T1, h1, hcel, hslt, hback⟩ := hlt.open
  obtain ⟨b0, d0, t0⟩ := hcel _ _ q0 e0
  obtain ⟨b1, d1, t1⟩ := hcel _ _ q1 e1
  obtain ⟨vs, vr, hb, ht, hsl, hro⟩ := h1.log
  have dg : ¬ D1 g := fun e => h1.sep g e ht
  have HC := Lib.hid (fun X (k : Keep D1 W X) => And.intro (k.cell b0 d0) (And.intro (k.cell b1 d1) (k.cell (p := ⟨g, 0, none⟩) (u := .pointer (some ⟨p, 0, none⟩)) (by rw [hb.cell]; rfl) dg)))
  have HW := Lib.hid h1
  have HBK := Lib.hid hback
  obtain ⟨rp, hrp⟩ : ∃ rp, rp = (wrP fun S F => syncS S F f.data.toList) S F L := ⟨_, rfl⟩
  rw [← hrp]
  have HRP := Lib.hid hrp
  clear hrp hlt hcel hslt hback hb ht hsl hro dg h1 b0 d0 t0 b1 d1 t1
  go_enter Tryz.func136, Tryz.ntmps136
  go_wp2_with fail
  have HBZ := Lib.hid (show Below W.heap.size W W.drew from (Below.refl _ _).drew)
  have HB := Lib.hid (show ∀ X, Keep D1 W.drew X → Keep D1 W X from fun X hX => (Keep.of_below ((Below.refl _ _).drew)).trans hX (fun _ h => h) (fun _ _ h => h))
  refine wp_region_held_drew (S := fun X => Keep D1 W.drew X) hfo (Keep.refl _ _) (fun hS0 => ?_)
  generalize W.drew = Z0 at hS0 HB HBZ ⊢
  refine' wpAnyH_take (i := 0) (oi := ⟨some 3, _, _, _, _, _⟩) (v := _) rfl (by kernel_rfl) (by kernel_rfl) (by kernel_rfl) (fun _ _ _ h => h) (Or.inl ⟨by rfl, ?y0⟩) hS0 ?r0
  case y0 => (intro w' hSw; obtain ⟨s0, s1, s2⟩ := HC.out w' (HB.out w' hSw); go_simp; try rfl)
  try simp only [Act.put, List.setIfInBounds_toArray, List.set_cons_zero, List.set_cons_succ]
  refine' wpAnyH_take (i := 1) (oi := ⟨some 4, _, _, _, _, _⟩) (v := _) rfl (by kernel_rfl) (by kernel_rfl) (by kernel_rfl) (fun _ _ _ h => h) (Or.inl ⟨by rfl, ?y1⟩) hS0 ?r1
  case y1 => (intro w' hSw; obtain ⟨s0, s1, s2⟩ := HC.out w' (HB.out w' hSw); go_simp; try rfl)
  try simp only [Act.put, List.setIfInBounds_toArray, List.set_cons_zero, List.set_cons_succ]
  refine' wpAnyH_take (i := 2) (oi := ⟨some 5, _, _, _, _, _⟩) (v := _) rfl (by kernel_rfl) (by kernel_rfl) (by kernel_rfl) (fun _ _ _ h => h) (Or.inl ⟨by rfl, ?y2⟩) hS0 ?r2
  case y2 => (intro w' hSw; obtain ⟨s0, s1, s2⟩ := HC.out w' (HB.out w' hSw); go_simp; try rfl)
  try simp only [Act.put, List.setIfInBounds_toArray, List.set_cons_zero, List.set_cons_succ]
  refine' wpAnyH_take (i := 3) (oi := ⟨some 6, _, _, _, _, _⟩) (v := _) rfl (by kernel_rfl) (by kernel_rfl) (by kernel_rfl) (fun _ _ _ h => h) (Or.inl ⟨by rfl, ?y3⟩) hS0 ?r3
  case y3 => (intro w' hSw; obtain ⟨s0, s1, s2⟩ := HC.out w' (HB.out w' hSw); go_simp; try rfl)
  try simp only [Act.put, List.setIfInBounds_toArray, List.set_cons_zero, List.set_cons_succ]
  refine' wpAnyH_take (i := 4) (oi := ⟨some 7, _, _, _, _, _⟩) (v := _) rfl (by kernel_rfl) (by kernel_rfl) (by kernel_rfl) (fun _ _ _ h => h) (Or.inl ⟨by rfl, ?y4⟩) hS0 ?r4
  case y4 => (intro w' hSw; obtain ⟨s0, s1, s2⟩ := HC.out w' (HB.out w' hSw); go_simp; try rfl)
  try simp only [Act.put, List.setIfInBounds_toArray, List.set_cons_zero, List.set_cons_succ]
  refine held_one (i := 5) (by kernel_rfl) rfl (fun K hK => ?_)
  go_simp
  refine (mx_sync (HW.out.disk.below HBZ.out) hw f).mono ?_
  rintro e Z1 ⟨rfl, hm, hk⟩
  have hS1 := keep_wr hS0 hk
  have HEND := Lib.hid (HBK.out _ _ _ _ (wrote_end HW.out HBZ.out hm hk))
  clear hm hk
  refine hK.out _ _ hS1 (fun _ => ?_)
  clear hK K
  try simp only [Act.put, List.setIfInBounds_toArray, List.set_cons_zero, List.set_cons_succ]
  refine' wpAnyH_take (i := 6) (oi := ⟨some 2, _, _, _, _, _⟩) (v := _) rfl (by kernel_rfl) (by kernel_rfl) (by kernel_rfl) (fun _ _ _ h => h) (Or.inl ⟨by rfl, ?y6⟩) hS1 ?r6
  case y6 => (intro w' hSw; obtain ⟨s0, s1, s2⟩ := HC.out w' (HB.out w' hSw); go_simp; try rfl)
  try simp only [Act.put, List.setIfInBounds_toArray, List.set_cons_zero, List.set_cons_succ]
  refine wpAnyH_done (by kernel_rfl) ?_ _
  clear HB HC HW HBK
  go_wp2
  go_ret
  rw [HRP.out]
  exact ⟨rfl, HEND.out⟩
set_option maxHeartbeats 1000000 in
theorem cut_step (c0 c1 c2 : Nat) (f : ByteArray) (n : Int) (q0 : w.cell? ⟨c0, 0, none⟩ = some (.pointer (some ⟨g, 0, none⟩))) (e0 : ¬ (D c0 ∨ T c0)) (q1 : w.cell? ⟨c1, 0, none⟩ = some (.string f)) (e1 : ¬ (D c1 ∨ T c1)) (q2 : w.cell? ⟨c2, 0, none⟩ = some (.int .i64 n)) (e2 : ¬ (D c2 ∨ T c2))  :
    StepOk D T w g p s most (134, #[.pointer (some ⟨c0, 0, none⟩), .pointer (some ⟨c1, 0, none⟩), .pointer (some ⟨c2, 0, none⟩)]) (wrP fun S F => cutS S F f.data.toList n) := by
  have hfo : Tryz.prog.follows .mixedOrders = true := by kernel_rfl
  refine ⟨enters_of Tryz.func134 (by kernel_rfl) rfl, fun S F L => cutS_wr _ _ _ _, fun S F L => Nat.le_trans (Nat.le_succ _) (Nat.le_max_left _ _), fun S F L W hlt hw hrl => ?_⟩
  obtain ⟨D1, T1, h1, hcel, hslt, hback⟩ := hlt.open
  obtain ⟨b0, d0, t0⟩ := hcel _ _ q0 e0
  obtain ⟨b1, d1, t1⟩ := hcel _ _ q1 e1
  obtain ⟨b2, d2, t2⟩ := hcel _ _ q2 e2
  obtain ⟨vs, vr, hb, ht, hsl, hro⟩ := h1.log
  have dg : ¬ D1 g := fun e => h1.sep g e ht
  have HC := Lib.hid (fun X (k : Keep D1 W X) => And.intro (k.cell b0 d0) (And.intro (k.cell b1 d1) (And.intro (k.cell b2 d2) (k.cell (p := ⟨g, 0, none⟩) (u := .pointer (some ⟨p, 0, none⟩)) (by rw [hb.cell]; rfl) dg))))
  have HW := Lib.hid h1
  have HBK := Lib.hid hback
  obtain ⟨rp, hrp⟩ : ∃ rp, rp = (wrP fun S F => cutS S F f.data.toList n) S F L := ⟨_, rfl⟩
  rw [← hrp]
  have HRP := Lib.hid hrp
  clear hrp hlt hcel hslt hback hb ht hsl hro dg h1 b0 d0 t0 b1 d1 t1 b2 d2 t2
  go_enter Tryz.func134, Tryz.ntmps134
  go_wp2_with fail
  have HBZ := Lib.hid (show Below W.heap.size W W.drew from (Below.refl _ _).drew)
  have HB := Lib.hid (show ∀ X, Keep D1 W.drew X → Keep D1 W X from fun X hX => (Keep.of_below ((Below.refl _ _).drew)).trans hX (fun _ h => h) (fun _ _ h => h))
  refine wp_region_held_drew (S := fun X => Keep D1 W.drew X) hfo (Keep.refl _ _) (fun hS0 => ?_)
  generalize W.drew = Z0 at hS0 HB HBZ ⊢
  refine' wpAnyH_take (i := 0) (oi := ⟨some 4, _, _, _, _, _⟩) (v := _) rfl (by kernel_rfl) (by kernel_rfl) (by kernel_rfl) (fun _ _ _ h => h) (Or.inl ⟨by rfl, ?y0⟩) hS0 ?r0
  case y0 => (intro w' hSw; obtain ⟨s0, s1, s2, s3⟩ := HC.out w' (HB.out w' hSw); go_simp; try rfl)
  try simp only [Act.put, List.setIfInBounds_toArray, List.set_cons_zero, List.set_cons_succ]
  refine' wpAnyH_take (i := 1) (oi := ⟨some 5, _, _, _, _, _⟩) (v := _) rfl (by kernel_rfl) (by kernel_rfl) (by kernel_rfl) (fun _ _ _ h => h) (Or.inl ⟨by rfl, ?y1⟩) hS0 ?r1
  case y1 => (intro w' hSw; obtain ⟨s0, s1, s2, s3⟩ := HC.out w' (HB.out w' hSw); go_simp; try rfl)
  try simp only [Act.put, List.setIfInBounds_toArray, List.set_cons_zero, List.set_cons_succ]
  refine' wpAnyH_take (i := 2) (oi := ⟨some 6, _, _, _, _, _⟩) (v := _) rfl (by kernel_rfl) (by kernel_rfl) (by kernel_rfl) (fun _ _ _ h => h) (Or.inl ⟨by rfl, ?y2⟩) hS0 ?r2
  case y2 => (intro w' hSw; obtain ⟨s0, s1, s2, s3⟩ := HC.out w' (HB.out w' hSw); go_simp; try rfl)
  try simp only [Act.put, List.setIfInBounds_toArray, List.set_cons_zero, List.set_cons_succ]
  refine' wpAnyH_take (i := 3) (oi := ⟨some 7, _, _, _, _, _⟩) (v := _) rfl (by kernel_rfl) (by kernel_rfl) (by kernel_rfl) (fun _ _ _ h => h) (Or.inl ⟨by rfl, ?y3⟩) hS0 ?r3
  case y3 => (intro w' hSw; obtain ⟨s0, s1, s2, s3⟩ := HC.out w' (HB.out w' hSw); go_simp; try rfl)
  try simp only [Act.put, List.setIfInBounds_toArray, List.set_cons_zero, List.set_cons_succ]
  refine' wpAnyH_take (i := 4) (oi := ⟨some 8, _, _, _, _, _⟩) (v := _) rfl (by kernel_rfl) (by kernel_rfl) (by kernel_rfl) (fun _ _ _ h => h) (Or.inl ⟨by rfl, ?y4⟩) hS0 ?r4
  case y4 => (intro w' hSw; obtain ⟨s0, s1, s2, s3⟩ := HC.out w' (HB.out w' hSw); go_simp; try rfl)
  try simp only [Act.put, List.setIfInBounds_toArray, List.set_cons_zero, List.set_cons_succ]
  refine' wpAnyH_take (i := 5) (oi := ⟨some 9, _, _, _, _, _⟩) (v := _) rfl (by kernel_rfl) (by kernel_rfl) (by kernel_rfl) (fun _ _ _ h => h) (Or.inl ⟨by rfl, ?y5⟩) hS0 ?r5
  case y5 => (intro w' hSw; obtain ⟨s0, s1, s2, s3⟩ := HC.out w' (HB.out w' hSw); go_simp; try rfl)
  try simp only [Act.put, List.setIfInBounds_toArray, List.set_cons_zero, List.set_cons_succ]
  refine held_one (i := 6) (by kernel_rfl) rfl (fun K hK => ?_)
  go_simp
  refine (mx_cut (HW.out.disk.below HBZ.out) hw f n).mono ?_
  rintro e Z1 ⟨rfl, hm, hk⟩
  have hS1 := keep_wr hS0 hk
  have HEND := Lib.hid (HBK.out _ _ _ _ (wrote_end HW.out HBZ.out hm hk))
  clear hm hk
  refine hK.out _ _ hS1 (fun _ => ?_)
  clear hK K
  try simp only [Act.put, List.setIfInBounds_toArray, List.set_cons_zero, List.set_cons_succ]
  refine' wpAnyH_take (i := 7) (oi := ⟨some 3, _, _, _, _, _⟩) (v := _) rfl (by kernel_rfl) (by kernel_rfl) (by kernel_rfl) (fun _ _ _ h => h) (Or.inl ⟨by rfl, ?y7⟩) hS1 ?r7
  case y7 => (intro w' hSw; obtain ⟨s0, s1, s2, s3⟩ := HC.out w' (HB.out w' hSw); go_simp; try rfl)
  try simp only [Act.put, List.setIfInBounds_toArray, List.set_cons_zero, List.set_cons_succ]
  refine wpAnyH_done (by kernel_rfl) ?_ _
  clear HB HC HW HBK
  go_wp2
  go_ret
  rw [HRP.out]
  exact ⟨rfl, HEND.out⟩
end
end Go.Proofs.YtibifnknkphanaaGreatDoor

/-
  The closures of wal, each a step: those that turn the log.
-/
namespace Go.Proofs.YtibifnknkphanaaGreatDoor
open Go.RowKit Go.Maps
open DskM WalM
set_option linter.unusedVariables false
set_option linter.unusedSimpArgs false
set_option maxRecDepth 20000
attribute [local go_sem] Oper.semAt_some

section
variable {D T : Nat → Prop} {w W W' : World} {g p : Nat} {s : ByteArray} {most : Int} {S : Ds} {F : List Fp} {L L' : Lg}
/-- The log has turned, the disk has not. -/
theorem LW.turn {vs vr : Value} (h : LW D T W g p s most S F L) (hk : Keep T W W') (hb : Blk W' g 60 (lgCells p s most L'.num vs vr L'.size L'.synced L'.dead))
    (hs : SlT (fun k => ¬ D k ∧ ¬ T k ∧ k < W.heap.size) W' vs L'.snap) (hr : RowT (fun k => T k ∨ (W.heap.size ≤ k ∧ k < W'.heap.size)) (fun k => ¬ D k ∧ ¬ T k ∧ k < W.heap.size) W' vr L'.recs) (hn : L'.num ≤ 2147483647) : LT D T W g p s most S F L' W' := by
  obtain ⟨_, _, hb0, ht0, _, _⟩ := h.log
  have hx : ∀ k (cs : Array Value), (¬ D k ∧ ¬ T k ∧ k < W.heap.size) → Blk W' k 5 cs → (¬ D k ∧ ¬ (T k ∨ (W.heap.size ≤ k ∧ k < W'.heap.size))) ∧ Blk W' k 5 cs := fun k cs hk hb => ⟨⟨hk.1, fun e => e.elim hk.2.1 (fun e => by have := hk.2.2; omega)⟩, hb⟩
  refine ⟨D, fun k => T k ∨ (W.heap.size ≤ k ∧ k < W'.heap.size), ⟨h.disk.kept hk (fun i hi e => h.sep i hi e), ⟨vs, vr, hb, .inl ht0, hs.kept hx, hr.kept hx (fun k cs ht hb => ⟨ht, hb⟩)⟩, fun j hj e => e.elim (h.sep j hj) (fun e => by have := h.dlt j hj; omega), fun j hj => Nat.lt_of_lt_of_le (h.dlt j hj) hk.size, fun j hj => hj.elim (fun e => Nat.lt_of_lt_of_le (h.tlt j e) hk.size) (fun e => e.2), h.ld.keep hk h.ft, h.fd, ?_, hn⟩, fun j hj => .inl hj, fun j hj => hj.imp id (fun e => e.1), hk.mono (fun i hi => .inr hi)⟩
  intro i hi
  rcases hi with e | e
  · exact h.ft i e
  · exact h.ld.far (S := fun j => W.heap.size ≤ j) (fun _ h => h) i e.1
theorem LW.bytes {v : Value} {l : List UInt8} (h : LW D T W g p s most S F L) (hs : SlT (fun k => ¬ D k ∧ ¬ T k) W v l) (hk : Keep T W W') : SlT (fun k => ¬ D k ∧ ¬ T k ∧ k < W.heap.size) W' v l :=
  hs.kept (fun k cs hx hb => ⟨⟨hx.1, hx.2, hb.lt⟩, hb.kept hk hx.2⟩)
theorem LW.row {v : Value} {ls : List (List UInt8)} (h : LW D T W g p s most S F L) (hs : RowT T (fun k => ¬ D k ∧ ¬ T k) W v ls) (hk : Keep (fun j => j = g) W W') : RowT (fun k => T k ∨ (W.heap.size ≤ k ∧ k < W'.heap.size)) (fun k => ¬ D k ∧ ¬ T k ∧ k < W.heap.size) W' v ls := by
  obtain ⟨_, _, hb0, ht0, _, _⟩ := h.log
  refine hs.kept (fun k cs hx hb => ⟨⟨hx.1, hx.2, hb.lt⟩, hb.kept hk (fun e => hx.2 (e ▸ ht0))⟩) (fun k cs ht hb => ⟨.inl ht, hb.kept hk (fun e => ?_)⟩)
  subst e
  have e := hb.symm.trans hb0
  injection e with e
  injection e with _ e
  revert e; decide
end
section
variable {D T : Nat → Prop} {w : World} {g p : Nat} {s : ByteArray} {most : Int}
def syncedP : PStep := fun S F L => (0, S, F, { L with synced := L.recs.length })
theorem synced_step (c0 : Nat) (q0 : w.cell? ⟨c0, 0, none⟩ = some (.pointer (some ⟨g, 0, none⟩))) (e0 : ¬ (D c0 ∨ T c0)) :
    StepOk D T w g p s most (64, #[.pointer (some ⟨c0, 0, none⟩)]) syncedP := by
  have hfo : Tryz.prog.follows .mixedOrders = true := by kernel_rfl
  refine ⟨enters_of Tryz.func64 (by kernel_rfl) rfl, fun S F L => Nat.le_succ _, fun S F L => Nat.le_trans (Nat.le_succ _) (Nat.le_max_left _ _), fun S F L W hlt hw hrl => ?_⟩
  obtain ⟨D1, T1, h1, hcel, hslt, hback⟩ := hlt.open
  obtain ⟨b0, d0, t0⟩ := hcel _ _ q0 e0
  have h1' : LW D1 T1 W.drew g p s most S F L := h1.below (Below.refl _ _).drew
  obtain ⟨vs, vr, hb, ht, hsl, hro⟩ := h1'.log
  obtain ⟨A, c, vv, hvr, hrest⟩ := id hro
  have c5 : W.drew.cell? ⟨g, 5, none⟩ = some (.slice A L.recs.length c) := by rw [hb.cell, ← hvr]; rfl
  have c7 : W.drew.cell? ⟨g, 7, none⟩ = some (.int .i64 (L.synced : Int)) := by rw [hb.cell]; rfl
  have f7 := hb.frozen 7
  have b0' : W.drew.cell? ⟨c0, 0, none⟩ = some (.pointer (some ⟨g, 0, none⟩)) := b0
  have hk : Keep (fun j => j = g) W.drew (W.drew.setCell ⟨g, 7, none⟩ (.int .i64 (L.recs.length : Int))) := Keep.setCell _ _ _ rfl
  have hk1 : Keep T1 W.drew (W.drew.setCell ⟨g, 7, none⟩ (.int .i64 (L.recs.length : Int))) := hk.mono (fun i e => e ▸ ht)
  have HE := Lib.hid (hback _ _ _ _ (LT.from (Below.refl _ _).drew (h1'.turn (L' := { L with synced := L.recs.length }) hk1 (hb.set_ 7 (.int .i64 (L.recs.length : Int))) (h1'.bytes hsl hk1) (h1'.row hro hk) h1.nb)))
  clear hk hk1 hlt hcel hslt hback hb ht hsl hro h1 h1' hvr hrest b0 d0 t0
  go_enter Tryz.func64, Tryz.ntmps64
  go_wp2_with fail
  go_still_tail 10, hfo
  go_wp2
  go_ret
  exact ⟨rfl, HE.out⟩
/-- A segment is begun: it has a snapshot and no records. -/
def beginP (n : Nat) (l : List UInt8) : PStep := fun S F L => (0, S, F, { num := n, snap := l, recs := [], size := l.length + 8, synced := 0, dead := L.dead })
theorem SlT.drop8 {X : Nat → Prop} {w : World} {br o c : Nat} {rec : List UInt8} (h : SlT X w (.slice (some ⟨br, o, none⟩) rec.length c) rec) (h8 : 8 ≤ rec.length) : SlT X w (.slice (some ⟨br, o + 8, none⟩) (rec.length - 8) (c - 8)) (rec.drop 8) := by
  obtain ⟨A, c', e, hc, ha⟩ := h
  injection e with e1 e2 e3
  subst e1 e3
  refine ⟨_, _, by rw [List.length_drop], by rw [List.length_drop]; omega, fun hn => ?_⟩
  obtain ⟨b, o', cs, e4, ht, hb, hx⟩ := ha (by omega)
  injection e4 with e4
  injection e4 with e4 e5
  subst e4 e5
  refine ⟨br, o + 8, cs, rfl, ht, hb, fun j hj => ?_⟩
  have hj' : 8 + j < rec.length := by rw [List.length_drop] at hj; omega
  have := hx (8 + j) hj'
  rw [List.getElem_drop, Nat.add_assoc]
  exact this
theorem begin_step (c0 c1 c2 n br o c : Nat) (rec : List UInt8) (q0 : w.cell? ⟨c0, 0, none⟩ = some (.int .i64 (n : Int))) (e0 : ¬ (D c0 ∨ T c0)) (q1 : w.cell? ⟨c1, 0, none⟩ = some (.slice (some ⟨br, o, none⟩) rec.length c)) (e1 : ¬ (D c1 ∨ T c1))
    (q2 : w.cell? ⟨c2, 0, none⟩ = some (.pointer (some ⟨g, 0, none⟩))) (e2 : ¬ (D c2 ∨ T c2)) (hrec : SlT (fun k => ¬ D k ∧ ¬ T k) w (.slice (some ⟨br, o, none⟩) rec.length c) rec) (h8 : 8 ≤ rec.length) (hc : rec.length ≤ c) (hn : n ≤ 2147483647) :
    StepOk D T w g p s most (112, #[.pointer (some ⟨c0, 0, none⟩), .pointer (some ⟨c1, 0, none⟩), .pointer (some ⟨c2, 0, none⟩)]) (beginP n (rec.drop 8)) := by
  have hfo : Tryz.prog.follows .mixedOrders = true := by kernel_rfl
  refine ⟨enters_of Tryz.func112 (by kernel_rfl) rfl, fun S F L => Nat.le_succ _, fun S F L => Nat.zero_le _, fun S F L W hlt hw hrl => ?_⟩
  obtain ⟨D1, T1, h1, hcel, hslt, hback⟩ := hlt.open
  obtain ⟨b0, d0, t0⟩ := hcel _ _ q0 e0
  obtain ⟨b1, d1, t1⟩ := hcel _ _ q1 e1
  obtain ⟨b2, d2, t2⟩ := hcel _ _ q2 e2
  have h1' : LW D1 T1 W.drew g p s most S F L := h1.below (Below.refl _ _).drew
  obtain ⟨vs, vr, hb, ht, hsl, hro⟩ := h1'.log
  have g3 : W.cell? ⟨g, 3, none⟩ = some (.int .i64 (L.num : Int)) := by show W.drew.cell? _ = _; rw [hb.cell]; rfl
  have g4 : W.cell? ⟨g, 4, none⟩ = some vs := by show W.drew.cell? _ = _; rw [hb.cell]; rfl
  have g5 : W.cell? ⟨g, 5, none⟩ = some vr := by show W.drew.cell? _ = _; rw [hb.cell]; rfl
  have g6 : W.cell? ⟨g, 6, none⟩ = some (.int .i64 (L.size : Int)) := by show W.drew.cell? _ = _; rw [hb.cell]; rfl
  have g7 : W.cell? ⟨g, 7, none⟩ = some (.int .i64 (L.synced : Int)) := by show W.drew.cell? _ = _; rw [hb.cell]; rfl
  have f3 : W.frozen? ⟨g, 3, none⟩ = false := hb.frozen 3
  have f4 : W.frozen? ⟨g, 4, none⟩ = false := hb.frozen 4
  have f5 : W.frozen? ⟨g, 5, none⟩ = false := hb.frozen 5
  have f6 : W.frozen? ⟨g, 6, none⟩ = false := hb.frozen 6
  have f7 : W.frozen? ⟨g, 7, none⟩ = false := hb.frozen 7
  have i1 : (8 : Int) ≤ (rec.length : Int) := by omega
  have i2 : (rec.length : Int) ≤ (c : Int) := by omega
  have HKEY := Lib.hid (show ∀ vx, SlT (fun k => ¬ D1 k ∧ ¬ T1 k) W vx (rec.drop 8) → LT D T w g p s most S F (beginP n (rec.drop 8) S F L).2.2.2 ((((((W.setCell ⟨g, 3, none⟩ (.int .i64 (n : Int))).setCell ⟨g, 4, none⟩ vx).setCell ⟨g, 5, none⟩ (.slice none 0 0)).setCell ⟨g, 6, none⟩ (.int .i64 (rec.length : Int))).setCell ⟨g, 7, none⟩ (.int .i64 0)).drew) from fun vx hvx => by
    have hbW : Blk W g 60 (lgCells p s most L.num vs vr L.size L.synced L.dead) := hb
    have k1 : Keep (fun j => j = g) W (((((W.setCell ⟨g, 3, none⟩ (.int .i64 (n : Int))).setCell ⟨g, 4, none⟩ vx).setCell ⟨g, 5, none⟩ (.slice none 0 0)).setCell ⟨g, 6, none⟩ (.int .i64 (rec.length : Int))).setCell ⟨g, 7, none⟩ (.int .i64 0)) :=
      ((((Keep.setCell (S := fun j => j = g) W _ _ rfl).trans (Keep.setCell (S := fun j => j = g) _ _ _ rfl) (fun _ h => h) (fun _ _ h => h)).trans (Keep.setCell (S := fun j => j = g) _ _ _ rfl) (fun _ h => h) (fun _ _ h => h)).trans (Keep.setCell (S := fun j => j = g) _ _ _ rfl) (fun _ h => h) (fun _ _ h => h)).trans (Keep.setCell (S := fun j => j = g) _ _ _ rfl) (fun _ h => h) (fun _ _ h => h)
    have k2 := k1.mono (T := T1) (fun i e => e ▸ ht)
    have b9 := ((((hbW.set_ 3 (.int .i64 (n : Int))).set_ 4 vx).set_ 5 (.slice none 0 0)).set_ 6 (.int .i64 (rec.length : Int))).set_ 7 (.int .i64 0)
    have e9 : (rec.length : Int) = ((rec.drop 8).length : Int) + 8 := by rw [List.length_drop]; omega
    refine (hback _ _ _ _ (h1.turn (L' := (beginP n (rec.drop 8) S F L).2.2.2) (vs := vx) (vr := .slice none 0 0) k2 ?_ (h1.bytes hvx k2) (RowT.nil _ _ _) hn)).below (Below.refl _ _).drew
    rw [e9] at b9 ⊢
    exact b9)
  have HSL := Lib.hid (hslt _ _ hrec)
  clear hlt hcel hslt hback hb ht hsl hro h1 h1' d0 d1 d2 t0 t1 t2 q0 q1 q2 e0 e1 e2
  by_cases hc8 : c = 8
  · subst hc8
    have hr0 : rec.drop 8 = [] := List.drop_eq_nil_of_le (by omega)
    have HE := Lib.hid (HKEY.out (.slice (some ⟨br, o, none⟩) 0 0) (by rw [hr0]; exact SlT.nil _ _ _ _))
    clear HKEY HSL hrec hr0
    go_enter Tryz.func112, Tryz.ntmps112
    go_wp2_with fail
    go_still_tail 9, hfo
    go_wp2
    go_ret
    exact ⟨rfl, HE.out⟩
  · have hc9 : 8 < c := by omega
    have HE := Lib.hid (HKEY.out (.slice (some ⟨br, o + 8, none⟩) (rec.length - 8) (c - 8)) (HSL.out.drop8 h8))
    clear HKEY HSL hrec
    go_enter Tryz.func112, Tryz.ntmps112
    go_wp2_with fail
    go_still_tail 9, hfo
    go_wp2
    go_ret
    exact ⟨rfl, HE.out⟩
/-- A row is taken over. -/
theorem LW.adopt {S : Ds} {F : List Fp} {L : Lg} {W : World} {rb : Nat} {C : Array Value} (h1 : LW D T W g p s most S F L) (hb : Blk W rb 22 C) (hd : ¬ D rb) (hf : Far (fun j => j = rb)) : LW D (fun j => T j ∨ j = rb) W g p s most S F L := by
  refine ⟨h1.disk, h1.log.kept (fun k cs hx hk => ⟨⟨hx.1, fun e => e.elim hx.2 (fun e => ?_)⟩, hk⟩) (fun k t cs ht hk => ⟨.inl ht, hk⟩), fun j hj e => e.elim (h1.sep j hj) (fun e => hd (e ▸ hj)), h1.dlt, fun j hj => hj.elim (h1.tlt j) (fun e => e ▸ hb.lt), h1.ld, h1.fd, fun j hj => hj.elim (h1.ft j) (hf j), h1.nb⟩
  subst e
  have e := hk.symm.trans hb
  injection e with e
  injection e with _ e
  revert e; decide
/-- A segment is taken up. -/
def takeP (n : Nat) (x : List UInt8) (xs : List (List UInt8)) (sz : Nat) : PStep := fun S F L => (0, S, F, { num := n, snap := x, recs := xs, size := sz, synced := xs.length, dead := L.dead })
set_option maxHeartbeats 1000000 in
theorem take_step (c0 c1 c2 c3 n sz rb cr : Nat) (x : List UInt8) (xs : List (List UInt8)) (q0 : w.cell? ⟨c0, 0, none⟩ = some (.int .i64 (n : Int))) (e0 : ¬ (D c0 ∨ T c0 ∨ c0 = rb)) (q1 : w.cell? ⟨c1, 0, none⟩ = some (.slice (some ⟨rb, 0, none⟩) (xs.length + 1) cr)) (e1 : ¬ (D c1 ∨ T c1 ∨ c1 = rb))
    (q2 : w.cell? ⟨c2, 0, none⟩ = some (.int .i64 (sz : Int))) (e2 : ¬ (D c2 ∨ T c2 ∨ c2 = rb)) (q3 : w.cell? ⟨c3, 0, none⟩ = some (.pointer (some ⟨g, 0, none⟩))) (e3 : ¬ (D c3 ∨ T c3 ∨ c3 = rb))
    (hrb : ¬ (D rb ∨ T rb)) (hfar : Far (fun j => j = rb)) (hrow : RowT (fun j => j = rb) (fun k => ¬ D k ∧ ¬ T k) w (.slice (some ⟨rb, 0, none⟩) (xs.length + 1) cr) (x :: xs)) (hn : n ≤ 2147483647) (hxs : xs.length ≤ 1000000) :
    StepOk2 D T (fun j => T j ∨ j = rb) w g p s most (137, #[.pointer (some ⟨c0, 0, none⟩), .pointer (some ⟨c1, 0, none⟩), .pointer (some ⟨c2, 0, none⟩), .pointer (some ⟨c3, 0, none⟩)]) (takeP n x xs sz) := by
  have hfo : Tryz.prog.follows .mixedOrders = true := by kernel_rfl
  refine ⟨enters_of Tryz.func137 (by kernel_rfl) rfl, fun S F L => Nat.le_succ _, fun S F L => Nat.le_trans (show xs.length ≤ 1000001 by omega) (Nat.le_max_right _ _), fun S F L W hlt hw hrl => ?_⟩
  obtain ⟨A0, cr0, vv, er, hr1, hr2, hr3, hr4, hr5⟩ := hrow
  injection er with er1 er2 er3
  clear er2
  subst er1 er3
  obtain ⟨rb', o', C, ee, hrr, hbR, hr6, hr7⟩ : ∃ r o C, (some ⟨rb, 0, none⟩ : Option Addr) = some ⟨r, o, none⟩ ∧ r = rb ∧ Blk w r 22 C ∧ o + cr ≤ C.size ∧ ∀ i, i < (x :: xs).length → C[o + i]? = vv[i]? := by
    rcases hr5 with ⟨e, _⟩ | h
    · cases e
    · exact h
  injection ee with ee
  injection ee with ee1 ee2
  subst ee1 ee2
  obtain ⟨D1, T1, h1, h2, h3, h4⟩ := hlt
  have hKW : Blk W rb 22 C := hbR.kept h4 hrb
  have hws := h4.size
  have hd1 : ¬ D1 rb := fun e => (h2 rb e).elim (fun e => hrb (.inl e)) (fun e => by have := hbR.lt; omega)
  have ht1 : ¬ T1 rb := fun e => (h3 rb e).elim (fun e => hrb (.inr e)) (fun e => by have := hbR.lt; omega)
  have hA := h1.adopt hKW hd1 hfar
  have hcell : ∀ a u, w.cell? a = some u → ¬ (D a.block ∨ T a.block ∨ a.block = rb) → W.cell? a = some u := fun a u hu hn => h4.cell hu (fun e => hn (e.imp id .inl))
  have b0 := hcell _ _ q0 e0
  have b1 := hcell _ _ q1 e1
  have b2 := hcell _ _ q2 e2
  have b3 := hcell _ _ q3 e3
  have hne : ∀ {k cs}, Blk w k 5 cs → k ≠ rb := fun {k cs} hb e => by
    subst e
    have e := hb.symm.trans hbR
    injection e with e
    injection e with _ e
    revert e; decide
  have hsls : ∀ i (hi : i < (x :: xs).length) (hi2 : i < vv.length), SlT (fun k => ¬ D1 k ∧ ¬ (T1 k ∨ k = rb)) W vv[i] (x :: xs)[i] := fun i hi hi2 => (hr4 i hi hi2).kept (fun k cs hx hb => ⟨⟨fun e => (h2 k e).elim hx.1 (fun e => by have := hb.lt; omega), fun e => e.elim (fun e => (h3 k e).elim hx.2 (fun e => by have := hb.lt; omega)) (hne hb)⟩, hb.kept h4 (fun e => e.elim hx.1 hx.2)⟩)
  have hbk : ∀ W' S' F' L', LT D1 (fun j => T1 j ∨ j = rb) W g p s most S' F' L' W' → LT D (fun j => T j ∨ j = rb) w g p s most S' F' L' W' := fun W' S' F' L' k => by
    obtain ⟨D2, T2, k1, k2, k3, k4⟩ := k
    refine ⟨D2, T2, k1, fun j hj => (k2 j hj).elim (h2 j) (fun e => .inr (Nat.le_trans hws e)), fun j hj => (k3 j hj).elim (fun e => e.elim (fun e => (h3 j e).imp .inl id) (fun e => .inl (.inr e))) (fun e => .inr (Nat.le_trans hws e)), h4.trans k4 (fun _ h => h.imp id .inl) (fun i hi e => ?_)⟩
    rcases e with e | e | e
    · exact (h2 i e).imp id (fun e => by omega)
    · exact (h3 i e).elim (fun e => .inr (.inl e)) (fun e => by omega)
    · exact .inr (.inr e)
  obtain ⟨vs, vr, hb, ht, hsl, hro⟩ := hA.log
  obtain ⟨v0, vt, rfl⟩ : ∃ v0 vt, vv = v0 :: vt := by
    cases vv with
    | nil => simp at hr3
    | cons a b => exact ⟨a, b, rfl⟩
  have hs0 : SlT (fun k => ¬ D1 k ∧ ¬ (T1 k ∨ k = rb)) W v0 x := hsls 0 (by simp) (by simp)
  obtain ⟨A0, c00, hv0, hc00, _⟩ := id hs0
  have r0 : W.cell? ⟨rb, 0, none⟩ = some (.slice A0 x.length c00) := by
    rw [hKW.cell, ← hv0]
    have := hr7 0 (by simp)
    simpa using this
  have g3 : W.cell? ⟨g, 3, none⟩ = some (.int .i64 (L.num : Int)) := by rw [hb.cell]; rfl
  have g4 : W.cell? ⟨g, 4, none⟩ = some vs := by rw [hb.cell]; rfl
  have g5 : W.cell? ⟨g, 5, none⟩ = some vr := by rw [hb.cell]; rfl
  have g6 : W.cell? ⟨g, 6, none⟩ = some (.int .i64 (L.size : Int)) := by rw [hb.cell]; rfl
  have g7 : W.cell? ⟨g, 7, none⟩ = some (.int .i64 (L.synced : Int)) := by rw [hb.cell]; rfl
  have f3 : W.frozen? ⟨g, 3, none⟩ = false := hb.frozen 3
  have f4 : W.frozen? ⟨g, 4, none⟩ = false := hb.frozen 4
  have f5 : W.frozen? ⟨g, 5, none⟩ = false := hb.frozen 5
  have f6 : W.frozen? ⟨g, 6, none⟩ = false := hb.frozen 6
  have f7 : W.frozen? ⟨g, 7, none⟩ = false := hb.frozen 7
  have hlen1 : (x :: xs).length = xs.length + 1 := rfl
  have hcr : xs.length + 1 ≤ cr := hr1
  have HKEY := Lib.hid (show ∀ vx, RowT (fun j => j = rb) (fun k => ¬ D1 k ∧ ¬ (T1 k ∨ k = rb)) W vx xs → LT D (fun j => T j ∨ j = rb) w g p s most S F (takeP n x xs sz S F L).2.2.2 ((((((W.setCell ⟨g, 3, none⟩ (.int .i64 (n : Int))).setCell ⟨g, 4, none⟩ (.slice A0 x.length c00)).setCell ⟨g, 5, none⟩ vx).setCell ⟨g, 6, none⟩ (.int .i64 (sz : Int))).setCell ⟨g, 7, none⟩ (.int .i64 (xs.length : Int))).drew) from fun vx hvx => by
    have k1 : Keep (fun j => j = g) W (((((W.setCell ⟨g, 3, none⟩ (.int .i64 (n : Int))).setCell ⟨g, 4, none⟩ (.slice A0 x.length c00)).setCell ⟨g, 5, none⟩ vx).setCell ⟨g, 6, none⟩ (.int .i64 (sz : Int))).setCell ⟨g, 7, none⟩ (.int .i64 (xs.length : Int))) :=
      ((((Keep.setCell (S := fun j => j = g) W _ _ rfl).trans (Keep.setCell (S := fun j => j = g) _ _ _ rfl) (fun _ h => h) (fun _ _ h => h)).trans (Keep.setCell (S := fun j => j = g) _ _ _ rfl) (fun _ h => h) (fun _ _ h => h)).trans (Keep.setCell (S := fun j => j = g) _ _ _ rfl) (fun _ h => h) (fun _ _ h => h)).trans (Keep.setCell (S := fun j => j = g) _ _ _ rfl) (fun _ h => h) (fun _ _ h => h)
    have k2 := k1.mono (T := fun j => T1 j ∨ j = rb) (fun i e => e ▸ ht)
    have b9 := ((((hb.set_ 3 (.int .i64 (n : Int))).set_ 4 (.slice A0 x.length c00)).set_ 5 vx).set_ 6 (.int .i64 (sz : Int))).set_ 7 (.int .i64 (xs.length : Int))
    refine (hbk _ _ _ _ (hA.turn (L' := (takeP n x xs sz S F L).2.2.2) (vs := .slice A0 x.length c00) (vr := vx) k2 b9 (hA.bytes (hv0 ▸ hs0) k2) ?_ hn)).below (Below.refl _ _).drew
    refine hvx.kept (fun k cs hx hb' => ⟨⟨hx.1, hx.2, hb'.lt⟩, hb'.kept k2 hx.2⟩) (fun k cs hk hb' => ⟨.inl (.inr hk), hb'.kept k1 (fun e => ?_)⟩)
    subst e
    have e := hb'.symm.trans hb
    injection e with e
    injection e with _ e
    revert e; decide)
  have HTAIL := Lib.hid (show ∀ i (hi : i < xs.length) (hi2 : i < vt.length), SlT (fun k => ¬ D1 k ∧ ¬ (T1 k ∨ k = rb)) W vt[i] xs[i] from fun i hi hi2 => hsls (i + 1) (by simp; omega) (by simp; omega))
  have HC := Lib.hid (show vt.length = xs.length ∧ cr ≤ C.size ∧ (∀ i, i < xs.length → C[1 + i]? = vt[i]?) ∧ cr ≤ maxLen from ⟨by simpa using hr3, by omega, fun i hi => by
    have := hr7 (i + 1) (by simp; omega)
    simp only [Nat.zero_add, List.getElem?_cons_succ] at this
    rw [Nat.add_comm]; exact this, hr2⟩)
  have HKW := Lib.hid hKW
  have j1 : ((xs.length : Int) + 1 - 1) = (xs.length : Int) := by omega
  have j2 : (1 : Int) ≤ (xs.length : Int) + 1 := by omega
  have j3 : (xs.length : Int) + 1 ≤ (cr : Int) := by omega
  have j4 : (0 : Int) < (xs.length : Int) + 1 := by omega
  have j5 : IntKind.i64.wrap (xs.length : Int) = (xs.length : Int) := by rw [IntKind.wrap_i64]; omega
  clear hcell hne hbk hr4 hr7 hr3 hr2 hr6 hrr hsls hs0 hb ht hsl hro hA h1 h2 h3 h4 hKW hrb hfar hbR hd1 ht1 hr5 q0 q1 q2 q3 e0 e1 e2 e3 hv0 hr1
  by_cases hc1 : cr = 1
  · have hx0 : xs = [] := List.eq_nil_of_length_eq_zero (by omega)
    subst hc1
    subst hx0
    have HE := Lib.hid (HKEY.out (.slice (some ⟨rb, 0, none⟩) 0 0) ⟨_, 0, [], rfl, Nat.le_refl _, Nat.zero_le _, rfl, fun i hi => absurd hi (by simp), .inr ⟨rb, 0, C, rfl, rfl, HKW.out, by omega, fun i hi => absurd hi (by simp)⟩⟩)
    clear HKEY HTAIL HC HKW j1 j2 j3 j4 j5 hcr hlen1 hxs
    rw [show ([] : List (List UInt8)).length + 1 = 1 from rfl] at b1
    go_enter Tryz.func137, Tryz.ntmps137
    go_wp2_with fail
    go_still_tail 14, hfo
    go_wp2
    go_ret
    exact ⟨rfl, HE.out⟩
  · have hc2 : 1 < cr := by omega
    have HE := Lib.hid (HKEY.out (.slice (some ⟨rb, 1, none⟩) xs.length (cr - 1)) ⟨_, cr - 1, vt, rfl, by omega, by have := HC.out.2.2.2; omega, HC.out.1, HTAIL.out, .inr ⟨rb, 1, C, rfl, rfl, HKW.out, by have := HC.out.2.1; omega, HC.out.2.2.1⟩⟩)
    have j6 : ¬ cr = 1 := hc1
    clear HKEY HTAIL HC HKW hlen1 hcr hxs hc1 hc00 j4
    go_enter Tryz.func137, Tryz.ntmps137
    go_wp2_with fail
    go_still_tail 14, hfo
    go_wp2
    go_ret
    exact ⟨rfl, HE.out⟩
end
end Go.Proofs.YtibifnknkphanaaGreatDoor

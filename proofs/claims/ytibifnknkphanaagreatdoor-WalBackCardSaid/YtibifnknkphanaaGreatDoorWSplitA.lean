/-
  wal.split: the whole records with which bytes begin, gone through.
-/
import Derived.Test.YtibifnknkphanaaGreatDoorWRange
import Derived.Test.YtibifnknkphanaaGreatDoorWRec
import Derived.Test.YtibifnknkphanaaGreatDoorRB1
import Derived.Test.YtibifnknkphanaaGreatDoorDskEach
namespace Go.Proofs.YtibifnknkphanaaGreatDoor
open Go.RowKit Go.Maps Go.Shelf
open DskM
set_option linter.unusedVariables false
set_option linter.unusedSimpArgs false
set_option maxRecDepth 100000
attribute [local go_sem] Oper.semAt_some

/-- A whole record stands at the front. -/
def okAt (l : List UInt8) : Bool := decide (8 ≤ l.length) && (decide (beN (l.take 4) ≤ 1048576) && (decide (8 + beN (l.take 4) ≤ l.length) && decide (beN ((l.drop 4).take 4) = crcN (l.take 4 ++ (l.drop 8).take (beN (l.take 4))))))
def wholeF : Nat → List UInt8 → Nat → List (List UInt8 × Nat)
  | 0, _, _ => []
  | f + 1, l, o => if okAt l = true then ((l.drop 8).take (beN (l.take 4)), o + (8 + beN (l.take 4))) :: wholeF f (l.drop (8 + beN (l.take 4))) (o + (8 + beN (l.take 4))) else []
/-- The whole records with which bytes begin, each with where it ends. -/
def wholeP (l : List UInt8) : List (List UInt8 × Nat) := wholeF l.length l 0
theorem okAt_len {l : List UInt8} (h : okAt l = true) : 8 + beN (l.take 4) ≤ l.length := by
  unfold okAt at h
  simp only [Bool.and_eq_true, decide_eq_true_eq] at h
  exact h.2.2.1
theorem wholeF_more : ∀ (f : Nat) (l : List UInt8) (o : Nat), l.length ≤ f → wholeF f l o = wholeF l.length l o
  | 0, l, o, h => by
    have e : l = [] := List.eq_nil_of_length_eq_zero (by omega)
    subst e; rfl
  | f + 1, l, o, h => by
    cases hl : l.length with
    | zero =>
      have e : l = [] := List.eq_nil_of_length_eq_zero hl
      subst e
      show (if okAt [] = true then _ else _) = _
      rw [if_neg (by decide)]; rfl
    | succ n =>
      show (if okAt l = true then _ else _) = (if okAt l = true then _ else _)
      split
      · rename_i hk
        have h1 := okAt_len hk
        have h2 : (l.drop (8 + beN (l.take 4))).length ≤ n := by rw [List.length_drop]; omega
        rw [wholeF_more f _ _ (by omega), wholeF_more n _ _ h2]
      · rfl
theorem whole_step (l : List UInt8) (o : Nat) (h : okAt l = true) : wholeF l.length l o = ((l.drop 8).take (beN (l.take 4)), o + (8 + beN (l.take 4))) :: wholeF (l.drop (8 + beN (l.take 4))).length (l.drop (8 + beN (l.take 4))) (o + (8 + beN (l.take 4))) := by
  have h1 := okAt_len h
  obtain ⟨n, hn⟩ : ∃ n, l.length = n + 1 := ⟨l.length - 1, by omega⟩
  rw [hn]
  show (if okAt l = true then _ else _) = _
  rw [if_pos h, wholeF_more n _ _ (by rw [List.length_drop]; omega)]
theorem whole_end (l : List UInt8) (o : Nat) (h : okAt l = false) : wholeF l.length l o = [] := by
  cases hn : l.length with
  | zero => rfl
  | succ n =>
    show (if okAt l = true then _ else _) = _
    rw [if_neg (by rw [h]; simp)]

/-- A slice of bytes in a block of the call's own. -/
def SlC (B : Nat) (w : World) (v : Value) (l : List UInt8) : Prop :=
  ∃ A, v = .slice A l.length l.length ∧ (0 < l.length → ∃ b o cs, A = some ⟨b, o, none⟩ ∧ RB.MBlk B w b cs ∧ ∀ j (h : j < l.length), cs[o + j]? = some (.int .u8 (l[j].toNat : Int)))
theorem SlC.sl {B : Nat} {w : World} {v : Value} {l : List UInt8} (h : SlC B w v l) : Sl w v l := by
  obtain ⟨A, rfl, ha⟩ := h
  refine ⟨A, _, rfl, Nat.le_refl _, fun hn => ?_⟩
  obtain ⟨b, o, cs, rfl, hb, hx⟩ := ha hn
  exact ⟨b, o, rfl, fun j hj => by rw [hb.cell]; exact hx j hj⟩
theorem SlC.kept {B : Nat} {w w' : World} {v : Value} {l : List UInt8} (h : SlC B w v l) (hk : ∀ k cs, B ≤ k → Blk w k 5 cs → Blk w' k 5 cs) : SlC B w' v l := by
  obtain ⟨A, rfl, ha⟩ := h
  refine ⟨A, rfl, fun hn => ?_⟩
  obtain ⟨b, o, cs, rfl, hb, hx⟩ := ha hn
  exact ⟨b, o, cs, rfl, ⟨hb.ge, hk _ _ hb.ge hb.blk⟩, hx⟩
/-- A record that is handed over: its slice, its bytes, where it ends. -/
abbrev Rec := Value × List UInt8 × Nat
def encR (x : Rec) : Array Value := #[x.1, .int .i64 (x.2.2 : Int)]
/-- The iterator's own steps turn readers alone. -/
structure StS (B0 : Nat) (A B : World) : Prop where
  os : B.os = A.os
  tape : B.tape = A.tape
  output : B.output = A.output
  size : A.heap.size ≤ B.heap.size
  same : ∀ (k : Nat) (o : Obj), A.heap[k]? = some o → (k < B0 ∨ ∀ cs fz, o ≠ .cells cs 169 fz) → B.heap[k]? = some o
theorem StS.quiet (B0 : Nat) : Quiet (StS B0) := fun A B h => ⟨h.size, fun k o hk hc _ => h.same k o hk (.inr fun cs fz e => by rw [e] at hc; cases hc)⟩
theorem StS.of_below {B0 : Nat} {A B : World} (h : Below A.heap.size A B) : StS B0 A B := ⟨h.os, h.tape, h.output, h.size, fun k o hk _ => (h.block k (Array.getElem?_eq_some_iff.1 hk).1).trans hk⟩
theorem StS.trans {B0 : Nat} {A B C : World} (h : StS B0 A B) (k : StS B0 B C) : StS B0 A C := ⟨k.os.trans h.os, k.tape.trans h.tape, k.output.trans h.output, Nat.le_trans h.size k.size, fun i o hi ho => k.same i o (h.same i o hi ho) ho⟩
theorem StS.of_grown {B0 : Nat} {A B : World} {g : Nat} {cs : Array Value} (h : A.grownBy B (some g)) (hb : Blk A g 169 cs) (hg : B0 ≤ g) : StS B0 A B :=
  ⟨h.os, h.tape, h.output, h.size, fun k o hk ho => (h.block k (Array.getElem?_eq_some_iff.1 hk).1 (fun e => by
    injection e with e
    subst e
    rw [hb] at hk
    injection hk with hk
    rcases ho with ho | ho
    · omega
    · exact ho _ _ hk.symm)).trans hk⟩
theorem StS.blk {B0 : Nat} {A B : World} {g : Nat} {t : TypeId} {cs : Array Value} (h : StS B0 A B) (hb : Blk A g t cs) (ht : t ≠ 169) : Blk B g t cs := h.same _ _ hb (.inr fun cs' fz e => by injection e with _ e _; exact ht e)
theorem StS.below {B0 N : Nat} {w A B : World} (h : StS B0 A B) (hb : Below N w A) (hN : N ≤ B0) (hw : N ≤ w.heap.size) : Below N w B :=
  ⟨h.os.trans hb.os, h.tape.trans hb.tape, h.output.trans hb.output, Nat.le_trans hb.size h.size, fun k hk => by
    have hlt : k < A.heap.size := by have := hb.size; omega
    have e := h.same k A.heap[k] (Array.getElem?_eq_getElem hlt) (.inl (by omega))
    rw [e, ← hb.block k hk, Array.getElem?_eq_getElem hlt]⟩
/-- What the body keeps: readers, bytes, and the box of what is gone through. -/
structure KpS (bx : Nat) (W W' : World) : Prop where
  size : W.heap.size ≤ W'.heap.size
  rd : ∀ k cs, Blk W k 169 cs → Blk W' k 169 cs
  by_ : ∀ k cs, Blk W k 5 cs → Blk W' k 5 cs
  box : W'.heap[bx]? = W.heap[bx]?
theorem KpS.trans {bx : Nat} {A B C : World} (h : KpS bx A B) (k : KpS bx B C) : KpS bx A C := ⟨Nat.le_trans h.size k.size, fun i cs hi => k.rd i cs (h.rd i cs hi), fun i cs hi => k.by_ i cs (h.by_ i cs hi), k.box.trans h.box⟩
theorem RB.Rd.blk {B : Nat} {w : World} {g : Nat} {l : List UInt8} (h : RB.Rd B w g l) : ∃ cs, Blk w g 169 cs := by
  obtain ⟨A, c, hg, _⟩ := h
  exact ⟨_, hg⟩
theorem RB.Rd.kp {B bx : Nat} {w w' : World} {g : Nat} {l : List UInt8} (h : RB.Rd B w g l) (k : KpS bx w w') : RB.Rd B w' g l := by
  obtain ⟨A, c, hg, hc, ha⟩ := h
  refine ⟨A, c, k.rd _ _ hg, hc, fun hn => ?_⟩
  obtain ⟨b, o, cs, rfl, hB, hx⟩ := ha hn
  exact ⟨b, o, cs, rfl, ⟨hB.ge, k.by_ _ _ hB.blk⟩, hx⟩
theorem RB.Part.slC {B : Nat} {w : World} {g : Nat} {A : Option Addr} {p l : List UInt8} (h : RB.Part B w g A p l) : SlC B w (.slice A p.length p.length) p := by
  obtain ⟨A', c, hg, hc, ha, _⟩ := h
  exact ⟨A, rfl, ha⟩
end Go.Proofs.YtibifnknkphanaaGreatDoor

namespace Go.Proofs.YtibifnknkphanaaGreatDoor
open Go.RowKit Go.Maps Go.Shelf
open DskM
set_option linter.unusedVariables false
set_option linter.unusedSimpArgs false
set_option maxRecDepth 100000
attribute [local go_sem] Oper.semAt_some

/-- How much is left to the reader in block g. -/
def leftOf (g : Nat) (w : World) : Nat := match w.cell? ⟨g, 0, none⟩ with
  | some (.slice _ n _) => n
  | _ => 0
theorem leftOf_rd {B g : Nat} {l : List UInt8} {w : World} (h : RB.Rd B w g l) : leftOf g w = l.length := by
  obtain ⟨A, c, hg, _⟩ := h
  unfold leftOf
  rw [hg.cell]
  rfl
theorem leftOf_fd {g : Nat} {w : World} (h : Fd w g) : leftOf g w = 0 := by
  unfold leftOf
  rw [Blk.cell h]
  rfl
/-- What holds ahead of a round. -/
def SpI (B g bx : Nat) (b : List UInt8) (v : Value) (J : List Rec → World → Prop) (W : World) : Prop :=
  ∃ pre rest, J pre W ∧ RB.Rd B W g rest ∧ Blk W bx 22 #[v] ∧ rest.length ≤ b.length ∧ pre.map (·.2) ++ wholeF rest.length rest (b.length - rest.length) = wholeP b ∧ 8 * pre.length + rest.length ≤ b.length
/-- How a round ends: it goes on, or not. -/
def YR (bx : Nat) (W1 : World) (J Jx : World → Prop) (bb : Bool) (W3 : World) : Prop := (bb = true ∧ J W3 ∧ KpS bx W1 W3) ∨ (bb = false ∧ Jx W3)
theorem yr_of {n l bx : Nat} {f : FuncId} {tmps : Array Value} {assign body : Code} {w W1 : World} {J Jx : World → Prop} (h : RoundIn Fence.wide n Tryz.prog l f tmps assign body w fun e W' => (e = .returned (.bool true) ∧ J W' ∧ KpS bx W1 W') ∨ (e = .returned (.bool false) ∧ Jx W')) :
    RoundIn Fence.wide n Tryz.prog l f tmps assign body w fun e W' => ∃ bb : Bool, e = .returned (.bool bb) ∧ YR bx W1 J Jx bb W' :=
  RoundIn.mono h (fun e W3 h => by
    rcases h with ⟨rfl, h1, h2⟩ | ⟨rfl, h1⟩
    · exact ⟨true, rfl, .inl ⟨rfl, h1, h2⟩⟩
    · exact ⟨false, rfl, .inr ⟨rfl, h1⟩⟩)
theorem splitFn_enters : ∀ args w, (callFunc 94 args).run Tryz.prog w = .ok (.enter 94 args) w := enters_of Tryz.func94 (by kernel_rfl) rfl
set_option maxHeartbeats 8000000 in
theorem split_in (n : Nat) (hn1 : 1 ≤ n) (l bx : Nat) (b : List UInt8) (hl : b.length ≤ 1000000) (v : Value) (J Jx : List Rec → World → Prop) (W : World)
    (B0 : Nat) (hB0 : B0 ≤ W.heap.size) (hJ : ∀ s A B, J s A → StS B0 A B → J s B) (hJx : ∀ s A B, Jx s A → StS B0 A B → Jx s B)
    (hY : ∀ pre x W1, J pre W1 → SlC W.heap.size W1 x.1 x.2.1 → pre.length < b.length → YieldAt Fence.wide (n - 1) Tryz.prog l (encR x) W1 fun e W' => (e = .returned (.bool true) ∧ J (pre ++ [x]) W' ∧ KpS bx W1 W') ∨ (e = .returned (.bool false) ∧ Jx (pre ++ [x]) W'))
    (hbx : Blk W bx 22 #[v]) (hv : Sl W v b) (h0 : J [] W) :
    CallsIn Fence.wide n Tryz.prog 94 #[.func (.yield l) #[] #[], .pointer (some ⟨bx, 0, none⟩)] W fun e W' => (∃ v, e = .returned v) ∧
      ((∃ xs : List Rec, xs.map (·.2) = wholeP b ∧ J xs W') ∨ (∃ pre : List Rec, True ∧ Jx pre W')) := by
  have q1 : W.cell? ⟨bx, 0, none⟩ = some v := by rw [hbx.cell]; rfl
  have HRD := Lib.hid (RB.read_any v b W hv hl)
  have HBX := Lib.hid hbx
  have H0 := Lib.hid h0
  obtain ⟨A0, n0, c0, rfl⟩ := hv.shape
  obtain rfl := hv.len
  clear hbx hv h0
  refine callsIn_of_wp Tryz.func94 rfl trivial ?_ rfl
  simp only [Tryz.ntmps94, List.size_toArray, List.length_cons, List.length_nil, Nat.reduceAdd, Nat.reduceSub, Array.replicate_succ, Array.replicate_zero, List.push_toArray, List.append_toArray, List.nil_append, List.cons_append]
  refine scope_wide ?_
  gi_wp2_with fail
  refine ⟨trivial, (callsIn_wide.2 HRD.out).mono ?_⟩
  rintro e W1 ⟨g, rfl, hg, hr, hb1⟩
  have hg0 : B0 ≤ g := Nat.le_trans hB0 hg
  have HI := Lib.hid (show SpI W.heap.size g bx b (.slice A0 b.length c0) J W1 from ⟨[], b, hJ _ _ _ H0.out (.of_below hb1), hr, HBX.out.below hb1 HBX.out.lt, Nat.le_refl _, by simp [wholeP], by simp⟩)
  clear hb1 hr HRD H0
  gi_wp2_with fail
  apply wpIn_label
  gi_wp2_with fail
  gi_loopw [] (fun wr => SpI W.heap.size g bx b (.slice A0 b.length c0) J wr) (fun wr => leftOf g wr)
  case atStart => exact HI.out
  case round =>
    obtain ⟨pre, rest, hj, hr, hbx, hlen, hwh, hle⟩ := hrel
    have HIJ := Lib.hid hj
    have HLEFTW := Lib.hid (leftOf_rd hr)
    have HBX' := Lib.hid hbx
    have HWH := Lib.hid hwh
    have HLE := Lib.hid hle
    have HLEN := Lib.hid hlen
    have hrl : rest.length ≤ 1000000 := by omega
    have HSTOP := Lib.hid (show ∀ w', okAt rest = false → StS B0 wr w' → (∃ xs : List Rec, xs.map (·.2) = wholeP b ∧ J xs w') from fun w' hk hs => ⟨pre, by rw [← hwh, whole_end _ _ hk, List.append_nil], hJ _ _ _ hj hs⟩)
    clear hj hbx hwh hle HI HBX hlen
    by_cases h4 : 4 ≤ rest.length
    · obtain ⟨cs0, hc0⟩ := RB.Rd.blk hr
      gi_wp2_with fail
      refine ⟨trivial, (callsIn_wide.2 (RB.bytes_ok g 4 rest wr hr h4 hrl)).mono ?_⟩
      rintro e w1 ⟨A1, rfl, hp1, hg1⟩
      have HS1 := Lib.hid (StS.of_grown hg1 hc0 hg0)
      have HP1 := Lib.hid hp1
      clear hg1 hc0 hr
      have hl4 : (rest.drop 4).length = rest.length - 4 := List.length_drop
      obtain ⟨cs1, hc1⟩ := RB.Rd.blk HP1.out.rd
      have ht4 : (rest.take 4).length = 4 := by rw [List.length_take]; omega
      by_cases h8 : 4 ≤ (rest.drop 4).length
      · gi_wp2_with fail
        refine ⟨trivial, (callsIn_wide.2 (RB.number_ok g 4 (rest.drop 4) w1 HP1.out.rd (by omega) (by omega) h8 (by omega))).mono ?_⟩
        rintro e w2 ⟨rfl, hr2, hg2⟩
        have HS12 := Lib.hid (StS.of_grown hg2 hc1 hg0)
        have HS2 := Lib.hid (HS1.out.trans HS12.out)
        have hsl2 : Sl w2 (.slice A1 4 4) (rest.take 4) := HP1.out.sl_grown hg2 ht4.symm (Nat.le_refl _)
        have HSL2 := Lib.hid hsl2
        have HR2 := Lib.hid hr2
        obtain ⟨cs2, hc2⟩ := RB.Rd.blk hr2
        obtain ⟨N, hN⟩ : ∃ N, N = beN (rest.take 4) := ⟨_, rfl⟩
        have hNlt : N < 4294967296 := by rw [hN]; have := beN_lt (rest.take 4); rw [ht4] at this; exact this
        have hGET := get_yes (.slice A1 4 4) (rest.take 4) w2 hsl2 (by omega) (by omega)
        rw [← hN] at hGET
        have HGET := Lib.hid hGET
        have HNN := Lib.hid hN
        clear hg2 hc1 hr2 hsl2 hGET hN
        gi_wp2_with fail
        refine ⟨trivial, (callsIn_wide.2 HGET.out).mono ?_⟩
        rintro e wx ⟨rfl, hwx⟩
        rw [← hwx]
        clear hwx wx HGET
        have hd8 : (rest.drop 4).drop 4 = rest.drop 8 := by rw [List.drop_drop]
        have hl8 : (rest.drop 8).length = rest.length - 8 := List.length_drop
        rw [hd8] at HR2
        have hwr : IntKind.i64.wrap (N : Int) = (N : Int) := by rw [IntKind.wrap_i64]; omega
        by_cases hn : N ≤ (rest.drop 8).length
        · gi_wp2_with fail
          refine ⟨trivial, (callsIn_wide.2 (RB.bytes_ok g N (rest.drop 8) w2 HR2.out hn (by omega))).mono ?_⟩
          rintro e w3 ⟨A3, rfl, hp3, hg3⟩
          have HS3 := Lib.hid (HS2.out.trans (StS.of_grown hg3 hc2 hg0))
          have HP3 := Lib.hid hp3
          have hk23 : ∀ k cs, Blk w2 k 5 cs → Blk w3 k 5 cs := fun k cs hb => (StS.of_grown hg3 hc2 hg0).blk hb (by decide)
          have hk12 : ∀ k cs, Blk w1 k 5 cs → Blk w2 k 5 cs := fun k cs hb => HS12.out.blk hb (by decide)
          have htN : ((rest.drop 8).take N).length = N := by rw [List.length_take]; omega
          have hs1 : SlC W.heap.size w3 (.slice A1 (rest.take 4).length (rest.take 4).length) (rest.take 4) := HP1.out.slC.kept (fun k cs _ hb => hk23 k cs (hk12 k cs hb))
          have hs3 : SlC W.heap.size w3 (.slice A3 ((rest.drop 8).take N).length ((rest.drop 8).take N).length) ((rest.drop 8).take N) := HP3.out.slC
          rw [ht4] at hs1
          rw [htN] at hs3
          have HS1' := Lib.hid hs1
          have HS3' := Lib.hid hs3
          have HR3 := Lib.hid hp3.rd
          have hN8 : 8 + N ≤ rest.length := by omega
          have hfl : [rest.take 4, (rest.drop 8).take N].flatten = rest.take 4 ++ (rest.drop 8).take N := by simp
          have hS4 : Sls (w3.alloc (.cells #[.slice A1 4 4, .slice A3 N N] 22)) (.slice (some ⟨w3.heap.size, 0, none⟩) 2 2) [rest.take 4, (rest.drop 8).take N] :=
            Sls.of_new w3 _ _ _ 2 rfl ⟨hs1.sl, hs3.sl, trivial⟩
          have hsum := sum_any _ _ _ hS4 (by rw [hfl, List.length_append]; omega) (by simp)
          rw [hfl] at hsum
          have hok : okAt rest = (decide (N ≤ 1048576) && decide (beN ((rest.drop 4).take 4) = crcN (rest.take 4 ++ (rest.drop 8).take N))) := by
            unfold okAt
            rw [← HNN.out, decide_eq_true (show 8 ≤ rest.length by omega), decide_eq_true hN8]
            simp
          have hcr : crcN (rest.take 4 ++ (rest.drop 8).take N) < 4294967296 := by unfold crcN; omega
          have hsb : beN ((rest.drop 4).take 4) < 4294967296 := by
            have := beN_lt ((rest.drop 4).take 4)
            have e4 : ((rest.drop 4).take 4).length = 4 := by rw [List.length_take]; omega
            rw [e4] at this; exact this
          have HPAY := Lib.hid (show okAt rest = true → wholeF rest.length rest (b.length - rest.length) = ((rest.drop 8).take N, b.length - rest.length + (8 + N)) :: wholeF ((rest.drop 8).drop N).length ((rest.drop 8).drop N) (b.length - rest.length + (8 + N)) from fun hk => by
            rw [whole_step _ _ hk, ← HNN.out, List.drop_drop])
          have HSUM := Lib.hid hsum
          have HB4 := Lib.hid (show Below w3.heap.size w3 (w3.alloc (.cells #[.slice A1 4 4, .slice A3 N N] 22)) from (Below.refl _ _).alloc (Nat.le_refl _) _)
          generalize hcrc : crcN (rest.take 4 ++ (rest.drop 8).take N) = CR at hok hcr HSUM
          generalize hsm : beN ((rest.drop 4).take 4) = SM at hok hsb
          have HOK := Lib.hid hok
          clear hs1 hs3 hp3 hg3 hS4 hsum hfl hok hk23 hk12 hcrc hsm hN8 htN
          gi_wp2_with fail
          refine ⟨trivial, (callsIn_wide.2 (RB.failed_no g _ w3 HR3.out)).mono ?_⟩
          rintro e wx ⟨rfl, hwx⟩
          rw [← hwx]
          clear hwx wx
          by_cases hm : N ≤ 1048576
          · have hm' : ¬ (1048576 : Int) < (N : Int) := by omega
            gi_wp2_with fail
            refine ⟨trivial, (callsIn_wide.2 HSUM.out).mono ?_⟩
            rintro e w5 ⟨rfl, hb5⟩
            have HB5 := Lib.hid (HB4.out.trans (hb5.mono (by simp)))
            clear hb5 HSUM
            have hu : (CR : Int) % 18446744073709551616 = (CR : Int) := by omega
            by_cases he : SM = CR
            · have hbe : ((SM : Int) != (CR : Int)) = false := by rw [he]; simp
              gi_wp2_with fail
              have HX := Lib.hid (show SlC W.heap.size w5.drew (.slice A3 N N) ((rest.drop 8).take N) from HS3'.out.kept (fun k cs _ hb => hb.below HB5.out.drew hb.lt))
              have HBX5 := Lib.hid (show Blk w5.drew bx 22 #[.slice A0 b.length c0] from (HS3.out.blk HBX'.out (by decide)).below HB5.out.drew (HS3.out.blk HBX'.out (by decide)).lt)
              have HR5 := Lib.hid (show RB.Rd W.heap.size w5.drew g ((rest.drop 8).drop N) from HR3.out.below HB5.out.drew)
              have HJ5 := Lib.hid (show J pre w5.drew from hJ _ _ _ HIJ.out (HS3.out.trans (.of_below (HB5.out.drew))))
              have q2 : w5.drew.cell? ⟨bx, 0, none⟩ = some (.slice A0 b.length c0) := by rw [HBX5.out.cell]; rfl
              have hll : ((rest.drop 8).drop N).length = rest.length - 8 - N := by rw [List.length_drop, List.length_drop]
              have hle' := HLE.out
              have hlen' := HLEN.out
              obtain ⟨o, ho⟩ : ∃ o : Nat, o = b.length - rest.length + (8 + N) := ⟨_, rfl⟩
              have ho2 : (b.length : Int) - (((rest.drop 8).drop N).length : Int) = (o : Int) := by rw [hll]; omega
              have how : IntKind.i64.wrap (o : Int) = (o : Int) := by rw [IntKind.wrap_i64]; omega
              obtain ⟨fn, tmps, assign, body, hy, hR⟩ := hY pre (.slice A3 N N, (rest.drop 8).take N, o) w5.drew HJ5.out HX.out (by omega)
              have HRR := Lib.hid (yr_of hR)
              have hko : okAt rest = true := by rw [HOK.out, decide_eq_true hm, decide_eq_true he]; rfl
              have HNEXT := Lib.hid (show ∀ W3, J (pre ++ [(.slice A3 N N, (rest.drop 8).take N, o)]) W3 → KpS bx w5.drew W3 → SpI W.heap.size g bx b (.slice A0 b.length c0) J W3 ∧ leftOf g W3 < leftOf g wr from fun W3 h1 h2 => by
                have e1 : b.length - ((rest.drop 8).drop N).length = o := by omega
                refine ⟨⟨_, (rest.drop 8).drop N, h1, HR5.out.kp h2, h2.box.trans HBX5.out, by omega, ?_, ?_⟩, ?_⟩
                · rw [e1, List.map_append, List.append_assoc, ← HWH.out, HPAY.out hko, ← ho]
                  rfl
                · rw [List.length_append, List.length_singleton]; omega
                · rw [leftOf_rd (HR5.out.kp h2), HLEFTW.out]; omega)
              have hLEFT := RB.left_no g _ w5.drew HR5.out
              have HLEFT := Lib.hid hLEFT
              have HO := Lib.hid ho
              have HOL := Lib.hid hll
              unfold encR at hy
              dsimp only at hy
              clear hR hLEFT hll ho hle' hlen'
              generalize hLL : ((rest.drop 8).drop N).length = ll at ho2 HLEFT HOL
              gi_region_with (first | (refine ⟨trivial, (callsIn_wide.2 HLEFT.out).mono ?_⟩; rintro e wx ⟨rfl, hwx⟩; rw [← hwx]; clear hwx wx) | (refine RoundIn.mono HRR.out ?_; rintro e W3 ⟨bb, rfl, hres⟩))
              all_goals
                rcases hres with ⟨rfl, hJ3, hk3⟩ | ⟨rfl, hJx3⟩
                · have HN3 := Lib.hid (HNEXT.out W3 hJ3 hk3)
                  clear hJ3 hk3
                  gi_wp2
                  refine ⟨?_, HN3.out.2⟩
                  exact ⟨_, _, _, _, _, _, _, _, _, _, _, _, _, _, _, _, _, _, _, _, _, _, _, _, _, _, _, _, _, _, _, _, _, _, _, _, _, _, _, _, HN3.out.1, rfl⟩
                · have HX3 := Lib.hid hJx3
                  clear hJx3
                  gi_wp2
                  rw [Exit.noGoto_ret]
                  refine bodyPost_ret (results_none rfl _ _ _) rfl ?_
                  exact ⟨⟨_, rfl⟩, .inr ⟨_, trivial, HX3.out⟩⟩
            · have hbe : ((SM : Int) != (CR : Int)) = true := by rw [bne_iff_ne]; omega
              have hko : okAt rest = false := by rw [HOK.out, decide_eq_false he]; simp
              gi_wp2_with fail
              rw [Exit.noGoto_normal]
              go_end0
              exact ⟨⟨_, rfl⟩, .inl (HSTOP.out _ hko (HS3.out.trans (.of_below HB5.out)))⟩
          · have hm' : (1048576 : Int) < (N : Int) := by omega
            have hko : okAt rest = false := by rw [HOK.out, decide_eq_false hm]; rfl
            gi_wp2_with fail
            rw [Exit.noGoto_normal]
            go_end0
            exact ⟨⟨_, rfl⟩, .inl (HSTOP.out _ hko HS3.out)⟩
        · have hko : okAt rest = false := by
            unfold okAt
            rw [← HNN.out, decide_eq_false (show ¬ 8 + N ≤ rest.length by omega)]
            simp
          gi_wp2_with fail
          refine ⟨trivial, (callsIn_wide.2 (RB.bytes_short g (N : Int) (rest.drop 8) w2 HR2.out (by omega) (by omega))).mono ?_⟩
          rintro e w3 ⟨rfl, hf3, hg3⟩
          have HS3 := Lib.hid (HS2.out.trans (StS.of_grown hg3 hc2 hg0))
          have HF3 := Lib.hid hf3
          clear hf3 hg3
          gi_wp2_with fail
          refine ⟨trivial, (callsIn_wide.2 (failed_yes g w3 HF3.out)).mono ?_⟩
          rintro e wx ⟨rfl, hwx⟩
          rw [← hwx]
          clear hwx wx
          gi_wp2_with fail
          rw [Exit.noGoto_normal]
          go_end0
          exact ⟨⟨_, rfl⟩, .inl (HSTOP.out _ hko HS3.out)⟩
      · have hko : okAt rest = false := by
          unfold okAt
          rw [decide_eq_false (show ¬ 8 ≤ rest.length by omega)]
          rfl
        gi_wp2_with fail
        refine ⟨trivial, (callsIn_wide.2 (RB.number_short g 4 (rest.drop 4) w1 HP1.out.rd (by omega) (by omega))).mono ?_⟩
        rintro e w2 ⟨rfl, hf2, hg2⟩
        have HS2 := Lib.hid (HS1.out.trans (StS.of_grown hg2 hc1 hg0))
        have hsl2 : Sl w2 (.slice A1 4 4) (rest.take 4) := HP1.out.sl_grown hg2 ht4.symm (Nat.le_refl _)
        have hGET := get_yes (.slice A1 4 4) (rest.take 4) w2 hsl2 (by omega) (by omega)
        have hNlt : beN (rest.take 4) < 4294967296 := by have := beN_lt (rest.take 4); rw [ht4] at this; exact this
        generalize beN (rest.take 4) = N at hGET hNlt
        have HGET := Lib.hid hGET
        have HF2 := Lib.hid hf2
        have hwr : IntKind.i64.wrap (N : Int) = (N : Int) := by rw [IntKind.wrap_i64]; omega
        clear hf2 hg2 hsl2 hGET hc1
        gi_wp2_with fail
        refine ⟨trivial, (callsIn_wide.2 HGET.out).mono ?_⟩
        rintro e wx ⟨rfl, hwx⟩
        rw [← hwx]
        clear hwx wx HGET
        gi_wp2_with fail
        refine ⟨trivial, (callsIn_wide.2 (bytes_failed g (N : Int) w2 HF2.out)).mono ?_⟩
        rintro e w3 ⟨rfl, hf3, hg3⟩
        have HS3 := Lib.hid (HS2.out.trans (StS.of_grown hg3 HF2.out hg0))
        have HF3 := Lib.hid hf3
        clear hf3 hg3
        gi_wp2_with fail
        refine ⟨trivial, (callsIn_wide.2 (failed_yes g w3 HF3.out)).mono ?_⟩
        rintro e wx ⟨rfl, hwx⟩
        rw [← hwx]
        clear hwx wx
        gi_wp2_with fail
        rw [Exit.noGoto_normal]
        go_end0
        exact ⟨⟨_, rfl⟩, .inl (HSTOP.out _ hko HS3.out)⟩
    · have hko : okAt rest = false := by
        unfold okAt
        rw [decide_eq_false (show ¬ 8 ≤ rest.length by omega)]
        rfl
      obtain ⟨cs0, hc0⟩ := RB.Rd.blk hr
      gi_wp2_with fail
      refine ⟨trivial, (callsIn_wide.2 (RB.bytes_short g 4 rest wr hr (by omega) hrl)).mono ?_⟩
      rintro e w1 ⟨rfl, hf1, hg1⟩
      have HS1 := Lib.hid (StS.of_grown hg1 hc0 hg0)
      have HF1 := Lib.hid hf1
      clear hg1 hc0 hr hf1
      gi_wp2_with fail
      refine ⟨trivial, (callsIn_wide.2 (number_failed g 4 w1 HF1.out)).mono ?_⟩
      rintro e w2 ⟨rfl, hf2, hg2⟩
      have HS2 := Lib.hid (HS1.out.trans (StS.of_grown hg2 HF1.out hg0))
      have HF2 := Lib.hid hf2
      have HGET := Lib.hid (get_no (.slice none 0 0) [] w2 (Sl.nil _ _) (.inl (by simp)))
      clear hf2 hg2
      gi_wp2_with fail
      refine ⟨trivial, (callsIn_wide.2 HGET.out).mono ?_⟩
      rintro e wx ⟨rfl, hwx⟩
      rw [← hwx]
      clear hwx wx HGET
      gi_wp2_with fail
      refine ⟨trivial, (callsIn_wide.2 (bytes_failed g 0 w2 HF2.out)).mono ?_⟩
      rintro e w3 ⟨rfl, hf3, hg3⟩
      have HS3 := Lib.hid (HS2.out.trans (StS.of_grown hg3 HF2.out hg0))
      have HF3 := Lib.hid hf3
      clear hf3 hg3
      gi_wp2_with fail
      refine ⟨trivial, (callsIn_wide.2 (failed_yes g w3 HF3.out)).mono ?_⟩
      rintro e wx ⟨rfl, hwx⟩
      rw [← hwx]
      clear hwx wx
      gi_wp2_with fail
      rw [Exit.noGoto_normal]
      go_end0
      exact ⟨⟨_, rfl⟩, .inl (HSTOP.out _ hko HS3.out)⟩
theorem split_seq (n : Nat) (hn : 1 ≤ n) (b : List UInt8) (hl : b.length ≤ 1000000) (bx : Nat) (v : Value) (w : World) (hbx : Blk w bx 22 #[v]) (hv : Sl w v b) :
    SeqX Fence.wide n Tryz.prog 94 #[.pointer (some ⟨bx, 0, none⟩)] encR (fun x W => SlC w.heap.size W x.1 x.2.1) (StS w.heap.size) (KpS bx) (fun xs => xs.map (·.2) = wholeP b) (fun _ => True) b.length w := by
  intro l J Jx W hW hJ hJx hY h0
  refine split_in n hn l bx b hl v J Jx W w.heap.size hW.size hJ hJx (fun pre x W1 h1 h2 h3 => hY pre x W1 h1 ?_ h3) (hbx.below hW hbx.lt) (hv.below hW) h0
  obtain ⟨A, e, ha⟩ := h2
  refine ⟨A, e, fun hp => ?_⟩
  obtain ⟨b', o, cs, e2, hb, hx⟩ := ha hp
  exact ⟨b', o, cs, e2, ⟨Nat.le_trans hW.size hb.ge, hb.blk⟩, hx⟩
end Go.Proofs.YtibifnknkphanaaGreatDoor

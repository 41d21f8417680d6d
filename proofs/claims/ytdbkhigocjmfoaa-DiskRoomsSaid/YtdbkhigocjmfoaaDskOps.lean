/-
  What the writes come to, plainly; write with what it is handed, in all its ways.
-/
import Derived.Test.YtdbkhigocjmfoaaDskSync
import Derived.Shelf.Abstract
namespace Go.Proofs.Ytdbkhigocjmfoaa
open Go.RowKit Go.Maps
open DskM
set_option linter.unusedVariables false
set_option linter.unusedSimpArgs false
set_option maxRecDepth 20000

/-! Plainly: a disk is its numbers and its files by rising names. -/
def findP (F : List Fp) (n : Nm) : Option Fp := F.find? fun x => x.1 == n
def setP (F : List Fp) (x : Fp) : List Fp := F.map fun y => if y.1 = x.1 then x else y
def delP (F : List Fp) (n : Nm) : List Fp := F.filter fun x => !(x.1 == n)
def insP (x : Fp) : List Fp → List Fp
  | [] => [x]
  | y :: r => if bytesBefore x.1 y.1 then x :: y :: r else y :: insP x r
def totalP (F : List Fp) : Nat := (F.map fun x => x.2.1.length).sum
def plain (L : List Fo) : List Fp := L.map Fo.p
theorem find_plain (L : List Fo) (n : Nm) : findP (plain L) n = (find L n).map Fo.p := by
  unfold findP plain find
  rw [List.find?_map]
  rfl
theorem setF_plain (L : List Fo) (f' : Fo) : plain (setF L f') = setP (plain L) f'.p := by
  unfold plain setF upd setP
  rw [List.map_map, List.map_map]
  refine List.map_congr_left fun f _ => ?_
  simp only [Function.comp_apply]
  show Fo.p (if f.nm = f'.nm then f' else f) = if f.nm = f'.nm then f'.p else f.p
  split <;> rfl
theorem del_plain (L : List Fo) (n : Nm) : plain (del L n) = delP (plain L) n := by
  unfold plain del delP
  rw [List.filter_map]
  rfl
theorem ins_plain (x : Fo) : ∀ L : List Fo, plain (ins x L) = insP x.p (plain L)
  | [] => rfl
  | y :: L => by
    show plain (if bytesBefore x.nm y.nm then x :: y :: L else y :: ins x L) = if bytesBefore x.nm y.nm then x.p :: y.p :: plain L else y.p :: insP x.p (plain L)
    rw [← ins_plain x L]
    split <;> rfl
theorem total_plain (L : List Fo) : totalP (plain L) = total L := by
  unfold totalP plain total
  rw [List.map_map]
  rfl
theorem plain_len (L : List Fo) : (plain L).length = L.length := by simp [plain]

/-- A write: done, torn, or not begun. -/
def writeS (S : Ds) (done torn F : List Fp) : Int × Ds × List Fp := if S.dead = true then (8, S, F) else if S.fuse = 0 then (8, S.gone, torn) else (0, S.step, done)
def syncS (S : Ds) (F : List Fp) (n : Nm) : Int × Ds × List Fp :=
  if mayB n = true then (match findP F n with | none => (6, S, F) | some x => writeS S (setP F (x.1, x.2.1, x.2.1.length)) F F) else (2, S, F)
def removeS (S : Ds) (F : List Fp) (n : Nm) : Int × Ds × List Fp :=
  if mayB n = true then (match findP F n with | none => (6, S, F) | some x => writeS S (delP F n) F F) else (2, S, F)
def cutS (S : Ds) (F : List Fp) (n : Nm) (k : Int) : Int × Ds × List Fp :=
  if mayB n = true ∧ 0 ≤ k then (match findP F n with | none => (6, S, F) | some x => if (x.2.1.length : Int) < k then (2, S, F) else writeS S (setP F (x.1, x.2.1.take k.toNat, min x.2.2 k.toNat)) F F) else (2, S, F)
def renameS (S : Ds) (F : List Fp) (n to : Nm) : Int × Ds × List Fp :=
  if mayB n = true ∧ mayB to = true then (match findP F n with | none => (6, S, F) | some x => writeS S (insP (to, x.2) (delP (delP F n) to)) F F) else (2, S, F)
def addP (F : List Fp) (n : Nm) (b : List UInt8) : List Fp := match findP F n with | none => insP (n, b, 0) F | some x => setP F (x.1, x.2.1 ++ b, x.2.2)
def appendS (S : Ds) (F : List Fp) (n : Nm) (b : List UInt8) : Int × Ds × List Fp :=
  if mayB n = true then (if S.cap < totalP F + b.length ∨ findP F n = none ∧ F.length = 64 then (5, S, F) else writeS S (addP F n b) (addP F n b) F) else (2, S, F)

/-- What has become of a disk; nothing else has turned that lay below B. -/
def Turn (B : Nat) (w : World) (p m : Nat) (L : List Fo) (S' : Ds) (F' : List Fp) (w' : World) : Prop :=
  ∃ L', plain L' = F' ∧ Dk w' p m S' L' ∧ Keep (fun i => Foot p m L i ∨ B ≤ i) w w' ∧ ∀ i, Foot p m L' i → Foot p m L i ∨ B ≤ i
def ResB (B : Nat) (w : World) (p m : Nat) (L : List Fo) (r : Int × Ds × List Fp) (e : Ending) (w' : World) : Prop := e = .returned (.int .i64 r.1) ∧ Turn B w p m L r.2.1 r.2.2 w'
def Res (w : World) (p m : Nat) (L : List Fo) (r : Int × Ds × List Fp) (e : Ending) (w' : World) : Prop := ResB w.heap.size w p m L r e w'
section
variable {w w' : World} {p m : Nat} {S S' : Ds} {L : List Fo} {B : Nat}
theorem Turn.same (h : Dk w p m S L) (hb : Below w.heap.size w w') : Turn B w p m L S (plain L) w' := ⟨L, rfl, h.below hb, .of_below hb, fun i hi => .inl hi⟩
theorem Turn.from {w0 : World} {F : List Fp} (hb : Below w0.heap.size w0 w) (h : Turn B w p m L S F w') : Turn B w0 p m L S F w' := by
  obtain ⟨L', a, b, c, d⟩ := h
  exact ⟨L', a, b, (Keep.of_below hb).trans c (fun _ h => h) (fun _ _ h => h), d⟩
theorem ResB.from {w0 : World} {r : Int × Ds × List Fp} {e : Ending} (hb : Below w0.heap.size w0 w) (h : ResB w0.heap.size w p m L r e w') : Res w0 p m L r e w' := ⟨h.1, h.2.from hb⟩
/-- What lay there stays, but for the disk. -/
theorem Turn.keep {F : List Fp} (h : Turn w.heap.size w p m L S F w') : Keep (Foot p m L) w w' := by
  obtain ⟨_, _, _, k, _⟩ := h
  exact ⟨k.os, k.tape, k.output, k.size, fun i hi hn => k.block i hi (fun e => e.elim hn (fun e => by omega))⟩
theorem Keep.foot (k : Keep (fun i => i = p) w w') : Keep (fun i => Foot p m L i ∨ B ≤ i) w w' := k.mono fun _ h => .inl (.inl h)
theorem write_any (h : Dk w p m S L) (hw : S.wr ≤ 1000000) (fA fT : Nat) (cA cT : Array Value) (done torn : List Fp)
    (eA : ∀ args w, (callFunc fA args).run Try.prog w = .ok (.enter fA args) w) (eT : ∀ args w, (callFunc fT args).run Try.prog w = .ok (.enter fT args) w)
    (hA : ∀ W, Dk W p m S.step L → Keep (fun i => i = p) w W → W.heap.size = w.heap.size → Calls Try.prog fA cA W fun e W' => e = .returned (.tuple #[]) ∧ Turn B W p m L S.step done W')
    (hT : ∀ W, Dk W p m S.gone L → Keep (fun i => i = p) w W → W.heap.size = w.heap.size → Calls Try.prog fT cT W fun e W' => e = .returned (.tuple #[]) ∧ Turn B W p m L S.gone torn W') :
    Calls Try.prog 54 #[.pointer (some ⟨p, 0, none⟩), .func (.func fA) #[] cA, .func (.func fT) #[] cT] w (ResB B w p m L (writeS S done torn (plain L))) := by
  have carry : ∀ (S' : Ds) (F : List Fp) (W W' : World), Keep (fun i => i = p) w W → W.heap.size = w.heap.size → Turn B W p m L S' F W' → Turn B w p m L S' F W' := by
    rintro S' F W W' hk hz ⟨L', a, b, c, d⟩
    exact ⟨L', a, b, (Keep.foot hk).trans c (fun _ h => h) (fun _ _ h => h), d⟩
  unfold writeS
  cases hd : S.dead with
  | true =>
    rw [if_pos rfl]
    refine (write_dead h hd _ _).mono ?_
    rintro e w' ⟨rfl, rfl⟩
    exact ⟨rfl, .same h (Below.refl _ _)⟩
  | false =>
    rw [if_neg (by simp)]
    by_cases hf : S.fuse = 0
    · rw [if_pos hf]
      refine (write_torn h hd hf hw _ fT cT (fun w' => Turn B w p m L S.gone torn w') eT fun W h1 h2 h3 => ?_).mono ?_
      · refine (hT W h1 h2 h3).mono ?_
        rintro e W' ⟨rfl, ht⟩
        exact ⟨rfl, carry _ _ _ _ h2 h3 ht⟩
      · rintro e w' ⟨rfl, ht⟩
        exact ⟨rfl, ht⟩
    · rw [if_neg hf]
      refine (write_all h hd hf hw _ fA cA (fun w' => Turn B w p m L S.step done w') eA fun W h1 h2 h3 => ?_).mono ?_
      · refine (hA W h1 h2 h3).mono ?_
        rintro e W' ⟨rfl, ht⟩
        exact ⟨rfl, carry _ _ _ _ h2 h3 ht⟩
      · rintro e w' ⟨rfl, ht⟩
        exact ⟨rfl, ht⟩
theorem nothing_turn (W : World) (S' : Ds) (hd : Dk W p m S' L) : Calls Try.prog 56 #[] W fun e W' => e = .returned (.tuple #[]) ∧ Turn B W p m L S' (plain L) W' := by
  refine (nothing_any W).mono ?_
  rintro e W' ⟨rfl, rfl⟩
  exact ⟨rfl, .same hd (Below.refl _ _)⟩
theorem enters_nothing : ∀ args w, (callFunc 56 args).run Try.prog w = .ok (.enter 56 args) w := enters_of Try.func56 (by kernel_rfl) rfl
/-- One file has turned. -/
theorem Turn.put {f f' : Fo} (h : Dk w p m S L) (hf : f ∈ L) (hn : f'.nm = f.nm) (hg : f'.g = f.g) (hk : Keep (fun i => i = f.g ∨ f.v.ownBlock = some i) w w') (hF : FoAt w' f')
    (hv : ∀ i, f'.v.ownBlock = some i → f.v.ownBlock = some i ∨ w.heap.size ≤ i) (hr : total L + f'.bs.length ≤ S.cap + f.bs.length) (hB : B ≤ w.heap.size) : Turn B w p m L S (setP (plain L) f'.p) w' :=
  ⟨setF L f', setF_plain L f', h.put hf hn hg hk hF hv hr, hk.mono (fun i hi => .inl (.inr (.inr ⟨f, hf, hi⟩))), fun i hi => (Foot.setF hf hn hg hv i hi).imp id (fun h => Nat.le_trans hB h)⟩

set_option maxHeartbeats 1000000 in
theorem sync_any (h : Dk w p m S L) (hw : S.wr ≤ 1000000) (s : ByteArray) :
    Calls Try.prog 32 #[.pointer (some ⟨p, 0, none⟩), .string s] w (Res w p m L (syncS S (plain L) s.data.toList)) := by
  unfold syncS
  cases hm : mayB s.data.toList with
  | false =>
    rw [if_neg (by simp)]
    have hfi := find_bad h s true (by rw [hm]; simp)
    have H := Lib.hid h
    clear h hm
    go_enter Try.func32, Try.ntmps32
    go_wp2_with fail
    refine hfi.mono ?_
    rintro e w1 ⟨rfl, hb1⟩
    clear hfi
    go_wp2
    go_ret
    exact ⟨rfl, .same H.out (hb1.alloc hb1.size _)⟩
  | true =>
    rw [if_pos rfl, find_plain]
    cases hf : find L s.data.toList with
    | none =>
      have hfi := find_lacks h s hm hf
      have H := Lib.hid h
      clear h hm hf
      go_enter Try.func32, Try.ntmps32
      go_wp2_with fail
      refine hfi.mono ?_
      rintro e w1 ⟨rfl, hb1⟩
      clear hfi
      go_wp2
      go_ret
      exact ⟨rfl, .same H.out (hb1.alloc hb1.size _)⟩
    | some f =>
      have hfi := find_there h s hm f hf
      obtain ⟨hfm, hnm⟩ := find_mem hf
      have H := Lib.hid h
      have HW := Lib.hid hw
      have HM := Lib.hid hfm
      show Calls _ _ _ _ (Res w p m L (writeS S (setP (plain L) (f.nm, f.bs, f.bs.length)) (plain L) (plain L)))
      clear h hm hf hw hfm hnm
      go_enter Try.func32, Try.ntmps32
      go_wp2_with fail
      refine hfi.mono ?_
      rintro e w1 ⟨rfl, hb1⟩
      clear hfi
      have hb2 : Below w.heap.size w (w1.alloc (.cells #[.pointer (some ⟨f.g, 0, none⟩)] 75)) := hb1.alloc hb1.size _
      have hB := Blk.new w1 75 #[.pointer (some ⟨f.g, 0, none⟩)]
      have h2 := H.out.below hb2
      have hcs : w1.heap.size ≠ p := by have := H.out.blk.lt; have := hb1.size; omega
      have hwr := write_any (B := w.heap.size) h2 HW.out 57 56 #[.pointer (some ⟨w1.heap.size, 0, none⟩)] #[] (setP (plain L) (f.nm, f.bs, f.bs.length)) (plain L)
        (enters_of Try.func57 (by kernel_rfl) rfl) enters_nothing
        (fun W hd hk hz => by
          have hf := hd.file f HM.out
          refine (sync1_any w1.heap.size f W (by rw [(hB.kept hk hcs).cell]; rfl) hf).mono ?_
          rintro e W' ⟨rfl, rfl⟩
          refine ⟨rfl, Turn.put (f' := { f with la := f.bs.length }) hd HM.out rfl rfl ?_ ?_ (fun i hi => .inl hi) (by have := hd.room; show total L + f.bs.length ≤ _; omega) (by have := hb2.size; omega)⟩
          · exact (Keep.of_below (S := fun i => i = f.g ∨ f.v.ownBlock = some i) (Below.refl W.heap.size W).drew).trans (Keep.setCell (S := fun i => i = f.g ∨ f.v.ownBlock = some i) W.drew ⟨f.g, 1, none⟩ _ (.inl rfl)) (fun _ h => h) (fun _ _ h => h)
          · exact ⟨hf.blk.set_ 1 _, hf.row.keep (fun k hk => Below.heap_setCell _ _ _ k (fun e => hd.rf HM.out HM.out (by rw [hk]; exact congrArg some e))), Nat.le_refl _, hf.may⟩)
        (fun W hd _ _ => nothing_turn W _ hd)
      have HWR := Lib.hid hwr
      have HB := Lib.hid hb2
      clear hwr hB h2 hcs hb2
      go_wp2_with fail
      refine HWR.out.mono ?_
      rintro e w2 ⟨rfl, ht⟩
      have HT := Lib.hid ht
      clear ht HWR
      generalize (writeS S (setP (plain L) (f.nm, f.bs, f.bs.length)) (plain L) (plain L)) = r at *
      go_wp2_with fail
      go_ret
      exact ⟨rfl, HT.out.from HB.out⟩
end
end Go.Proofs.Ytdbkhigocjmfoaa

/-
  What an opening comes to, plainly; numbers in rising order. No function of the program is walked here.
-/
import Derived.Test.YtibifnknkphanaaGreatDoorWAppA
import Derived.Test.YtibifnknkphanaaGreatDoorWRemA
import Derived.Laws.OwnMore
namespace Go.Proofs.YtibifnknkphanaaGreatDoor
open Go.RowKit Go.Maps
open DskM WalM
set_option linter.unusedVariables false
set_option linter.unusedSimpArgs false

def insN (x : Nat) : List Nat → List Nat
  | [] => [x]
  | y :: l => if x ≤ y then x :: y :: l else y :: insN x l
def sortN : List Nat → List Nat
  | [] => []
  | x :: l => insN x (sortN l)
theorem insN_perm (x : Nat) : ∀ l, (insN x l).Perm (x :: l)
  | [] => List.Perm.refl _
  | y :: l => by
    unfold insN; split
    · exact List.Perm.refl _
    · exact ((insN_perm x l).cons y).trans (List.Perm.swap x y l)
theorem insN_sorted (x : Nat) : ∀ l : List Nat, l.Pairwise (· ≤ ·) → (insN x l).Pairwise (· ≤ ·)
  | [], _ => List.pairwise_singleton _ _
  | y :: l, h => by
    unfold insN
    rw [List.pairwise_cons] at h
    split
    · rename_i hxy
      refine List.pairwise_cons.2 ⟨fun z hz => ?_, List.pairwise_cons.2 h⟩
      rcases List.mem_cons.1 hz with rfl | hz
      · exact hxy
      · exact Nat.le_trans hxy (h.1 z hz)
    · rename_i hxy
      refine List.pairwise_cons.2 ⟨fun z hz => ?_, insN_sorted x l h.2⟩
      rcases List.mem_cons.1 ((insN_perm x l).mem_iff.1 hz) with rfl | hz
      · omega
      · exact h.1 z hz
theorem sortN_perm : ∀ l, (sortN l).Perm l
  | [] => List.Perm.refl _
  | x :: l => (insN_perm x _).trans ((sortN_perm l).cons x)
theorem sortN_sorted : ∀ l, (sortN l).Pairwise (· ≤ ·)
  | [] => List.Pairwise.nil
  | x :: l => insN_sorted x _ (sortN_sorted l)
theorem sortN_length (l : List Nat) : (sortN l).length = l.length := (sortN_perm l).length_eq
theorem merge_sortN (l : List Nat) : (l.map fun n : Nat => (n : Int)).mergeSort (fun x y => decide (x ≤ y)) = (sortN l).map fun n : Nat => (n : Int) := by
  have h1 : ((l.map fun n : Nat => (n : Int)).mergeSort (fun x y => decide (x ≤ y))).Pairwise (fun a b => a ≤ b) := by
    have := List.pairwise_mergeSort (le := fun (x y : Int) => decide (x ≤ y)) (fun a b c h k => by simp at *; omega) (fun a b => by simp; omega) (l.map fun n : Nat => (n : Int))
    exact this.imp (fun h => by simpa using h)
  have h2 : ((sortN l).map fun n : Nat => (n : Int)).Pairwise (fun a b => a ≤ b) := by
    rw [List.pairwise_map]
    exact (sortN_sorted l).imp (fun h => by omega)
  have h3 := (List.mergeSort_perm (l.map fun n : Nat => (n : Int)) (fun x y => decide (x ≤ y))).trans ((sortN_perm l).symm.map fun n : Nat => (n : Int))
  exact List.Perm.eq_of_pairwise (le := fun a b => a ≤ b) (fun a b _ _ h k => by omega) h1 h2 h3
/-- The numbers of the segments that are there; rising. -/
def numsF (nm : Nm) (F : List Fp) : List Nat := (F.map fun f => numP nm f.1).filter fun n => decide (1 ≤ n)
def numsP (nm : Nm) (F : List Fp) : List Nat := sortN (numsF nm F)
theorem numsP_le {nm : Nm} {F : List Fp} {n : Nat} (h : n ∈ numsP nm F) : 1 ≤ n ∧ n ≤ 2147483647 := by
  have h1 := (sortN_perm _).mem_iff.1 h
  unfold numsF at h1
  rw [List.mem_filter, List.mem_map] at h1
  obtain ⟨⟨f, _, rfl⟩, h2⟩ := h1
  exact ⟨of_decide_eq_true h2, numP_le _ _⟩
theorem numsP_len (nm : Nm) (F : List Fp) : (numsP nm F).length ≤ F.length := by
  unfold numsP numsF
  rw [sortN_length]
  exact Nat.le_trans (List.length_filter_le _ _) (by simp)
/-- Where the last record ends. -/
def endP (l : List (List UInt8 × Nat)) : Nat := (l.getLast?.map (·.2)).getD 0
theorem endR_P (xs : List Rec) : endR xs = endP (xs.map (·.2)) := by
  unfold endR endP
  rw [List.getLast?_map, Option.map_map]; rfl
/-- The steps that take a segment up: its bytes are b. -/
def takeSteps (s : ByteArray) (n : Nat) (b : List UInt8) : List PStep :=
  (if decide (endP (wholeP b) < b.length) then [wrP fun S F => cutS S F (segS s n).data.toList (endP (wholeP b) : Nat)] else []) ++
  [wrP fun S F => syncS S F (segS s n).data.toList, takeP n ((wholeP b).map (·.1)).head! ((wholeP b).map (·.1)).tail (endP (wholeP b))]
def remsP (s : ByteArray) (ns : List Nat) : List PStep := ns.map fun n => removeP (seg s.data.toList n)
/-- The steps of an opening: of the last i of the numbers none has counted. -/
def openAt (s : ByteArray) (F : List Fp) (ns : List Nat) : Nat → List PStep
  | 0 => remsP s ns ++ begStepsP s 1 (recP [])
  | i + 1 => if (wholeP (bytesP F (segS s (ns.getD i 0)).data.toList)).isEmpty then openAt s F ns i
    else takeSteps s (ns.getD i 0) (bytesP F (segS s (ns.getD i 0)).data.toList) ++ remsP s (ns.eraseIdx i)
def openSteps (s : ByteArray) (F : List Fp) : List PStep := openAt s F (numsP s.data.toList F) (numsP s.data.toList F).length
end Go.Proofs.YtibifnknkphanaaGreatDoor

/-
  takingUp: what makes a segment the log's, and whether it counts.
-/
namespace Go.Proofs.YtibifnknkphanaaGreatDoor
open Go.RowKit Go.Maps
open DskM WalM
set_option linter.unusedVariables false
set_option linter.unusedSimpArgs false
set_option maxRecDepth 20000
attribute [local go_sem] Oper.semAt_some

/-- The closures of takingUp. -/
def takeFns (c : Bool) (cl cn cf cr cz : Nat) : List (Nat × Array Value) :=
  (if c then [(134, #[.pointer (some ⟨cl, 0, none⟩), .pointer (some ⟨cf, 0, none⟩), .pointer (some ⟨cz, 0, none⟩)])] else []) ++
  [(136, #[.pointer (some ⟨cl, 0, none⟩), .pointer (some ⟨cf, 0, none⟩)]), (137, #[.pointer (some ⟨cn, 0, none⟩), .pointer (some ⟨cr, 0, none⟩), .pointer (some ⟨cz, 0, none⟩), .pointer (some ⟨cl, 0, none⟩)])]
/-- What the closures of takingUp have in their boxes. -/
structure TakeAt (B : Nat) (W : World) (g n : Nat) (s : ByteArray) (xs : List Rec) (vr : Value) (cl cn cf cr cz : Nat) : Prop where
  bl : B ≤ cl ∧ Blk W cl 40 #[.pointer (some ⟨g, 0, none⟩)]
  bn : B ≤ cn ∧ Blk W cn 3 #[.int .i64 (n : Int)]
  bf : B ≤ cf ∧ Blk W cf 9 #[.string (segS s n)]
  br : B ≤ cr ∧ Blk W cr 27 #[vr]
  bz : B ≤ cz ∧ Blk W cz 3 #[.int .i64 (endR xs : Int)]
  own : W.ownsRow B 22 1 vr xs.length (xs.map (·.1))
  sl : ∀ x ∈ xs, SlC B W x.1 x.2.1
theorem TakeAt.kept {B : Nat} {W W' : World} {g n : Nat} {s : ByteArray} {xs : List Rec} {vr : Value} {cl cn cf cr cz : Nat} (h : TakeAt B W g n s xs vr cl cn cf cr cz) (hk : ∀ k t c, B ≤ k → t ≠ 150 → Blk W k t c → Blk W' k t c) : TakeAt B W' g n s xs vr cl cn cf cr cz :=
  ⟨⟨h.bl.1, hk _ _ _ h.bl.1 (by decide) h.bl.2⟩, ⟨h.bn.1, hk _ _ _ h.bn.1 (by decide) h.bn.2⟩, ⟨h.bf.1, hk _ _ _ h.bf.1 (by decide) h.bf.2⟩, ⟨h.br.1, hk _ _ _ h.br.1 (by decide) h.br.2⟩, ⟨h.bz.1, hk _ _ _ h.bz.1 (by decide) h.bz.2⟩, by
    refine ⟨h.own.1, ?_⟩
    rcases h.own.2 with h2 | ⟨g, cap, cur, hv, hg, hh, r⟩
    · exact .inl h2
    · exact .inr ⟨g, cap, cur, hv, hg, hk g _ cur hg (by decide) hh, r⟩, fun x hx => (h.sl x hx).kept (fun k cs hb hk' => hk k _ cs hb (by decide) hk')⟩
theorem TakeAt.below {B : Nat} {W W' : World} {g n : Nat} {s : ByteArray} {xs : List Rec} {vr : Value} {cl cn cf cr cz : Nat} (h : TakeAt B W g n s xs vr cl cn cf cr cz) (hb : Below W.heap.size W W') : TakeAt B W' g n s xs vr cl cn cf cr cz :=
  h.kept (fun k t c _ _ hk => hk.below hb hk.lt)
/-- Closures behind closures of the call's own. -/
theorem append_steps {w w5 w6 : World} {B : Nat} {v : Value} {xs ys : List (Nat × Array Value)} (h6 : w6 = w5.alloc (.cells (ys.map fnV).toArray 150)) (hst : Stps B w5 v xs) (hl : xs.length + ys.length ≤ 100000000) :
    Stps B w6 v xs ∧ (∀ (j : Nat) (u : Value), (ys.map fnV)[j]? = some u → w6.cell? ((⟨w5.heap.size, 0, none⟩ : Addr).add j) = some u) ∧ xs.length + ys.length ≤ maxLen ∧ (xs.length + ys.length) * 8 ≤ 140737488355328 ∧ Below w5.heap.size w5 w6 := by
  have hb6 : Below w5.heap.size w5 w6 := by rw [h6]; exact al_one w5 _
  exact ⟨hst.below hb6 (Nat.le_refl _), by rw [h6]; exact cells_new, by unfold maxLen; omega, by omega, hb6⟩
set_option maxHeartbeats 4000000 in
theorem takingUp_any {D T : Nat → Prop} {w : World} {g p : Nat} {s : ByteArray} {most : Int} {S : Ds} {F : List Fp} {L : Lg} (h : LW D T w g p s most S F L) (n : Nat) (hn : n ≤ 2147483647) (hsz : s.size ≤ 1000000) (hlb : (bytesP F (segS s n).data.toList).length ≤ 1000000) :
    Calls Tryz.prog 105 #[.pointer (some ⟨g, 0, none⟩), .int .i64 (n : Int)] w fun e w' => ∃ xs : List Rec, xs.map (·.2) = wholeP (bytesP F (segS s n).data.toList) ∧ Below w.heap.size w w' ∧
      ((xs = [] ∧ e = .returned (.tuple #[.slice none 0 0, .bool false])) ∨
       (xs ≠ [] ∧ ∃ vs vr cl cn cf cr cz, e = .returned (.tuple #[vs, .bool true]) ∧ Stps w.heap.size w' vs (takeFns (decide (endR xs < (bytesP F (segS s n).data.toList).length)) cl cn cf cr cz) ∧ TakeAt w.heap.size w' g n s xs vr cl cn cf cr cz)) := by
  have hfo : Tryz.prog.follows .mixedOrders = true := by kernel_rfl
  obtain ⟨b, hbe⟩ : ∃ b, b = bytesP F (segS s n).data.toList := ⟨_, rfl⟩
  rw [← hbe] at hlb ⊢
  have HBE := Lib.hid hbe
  clear hbe
  obtain ⟨i0, hi, hy0, hy1, hy2⟩ := info_parts info_step
  have hmf : ∀ (fn : Fn) (first cap : Array Value) (w : World), (Instr.makeFunc fn first cap).run Tryz.prog w = .ok (.func fn first cap) w := fun _ _ _ _ => rfl
  obtain ⟨w1, hw1⟩ : ∃ w1, w1 = (w.alloc (.cells #[.pointer (some ⟨g, 0, none⟩)] 40)).alloc (.cells #[.int .i64 (n : Int)] 3) := ⟨_, rfl⟩
  have hb1 : Below w.heap.size w w1 := by rw [hw1]; exact ((Below.refl _ w).alloc (Nat.le_refl _) _).alloc (by simp) _
  have hz1 : w1.heap.size = w.heap.size + 2 := by rw [hw1]; simp
  have k0 : Blk w1 w.heap.size 40 #[.pointer (some ⟨g, 0, none⟩)] := by rw [hw1]; exact (Blk.new w _ _).alloc _
  have k1 : Blk w1 (w.heap.size + 1) 3 #[.int .i64 (n : Int)] := by
    have := Blk.new (w.alloc (.cells #[.pointer (some ⟨g, 0, none⟩)] 40)) 3 #[.int .i64 (n : Int)]
    rw [World.size_alloc] at this
    rw [hw1]; exact this
  have h1 := h.below hb1
  have q1 : w1.cell? ⟨g, 1, none⟩ = some (.string s) := by obtain ⟨_, _, hbg, _⟩ := h1.log; rw [hbg.cell]; rfl
  have hF := file_any g s n (by omega) hsz w1 q1 h1.ld
  have p0 : w1.cell? ⟨w.heap.size, 0, none⟩ = some (.pointer (some ⟨g, 0, none⟩)) := by rw [k0.cell]; rfl
  have p1 : w1.cell? ⟨w.heap.size + 1, 0, none⟩ = some (.int .i64 (n : Int)) := by rw [k1.cell]; rfl
  have HF := Lib.hid hF
  have HW1 := Lib.hid hw1
  have HK := Lib.hid (And.intro hb1 (And.intro k0 (And.intro k1 h1)))
  have HZ1 := Lib.hid hz1
  clear hF hw1 hb1 k0 k1 h1 hz1 h q1
  go_enter Tryz.func105, Tryz.ntmps105
  go_wp2_with fail
  rw [← HW1.out]
  refine HF.out.mono ?_
  rintro e w2 ⟨rfl, hb2⟩
  obtain ⟨w3, hw3⟩ : ∃ w3, w3 = w2.alloc (.cells #[.string (segS s n)] 9) := ⟨_, rfl⟩
  have hb3 : Below w2.heap.size w2 w3 := by rw [hw3]; exact al_one w2 _
  have k4 : Blk w3 w2.heap.size 9 #[.string (segS s n)] := by rw [hw3]; exact Blk.new w2 _ _
  have hz3 : w2.heap.size < w3.heap.size := k4.lt
  have hb13 : Below w1.heap.size w1 w3 := hb2.trans (hb3.mono hb2.size)
  have h3 := HK.out.2.2.2.below hb13
  have c0 : w3.cell? ⟨w.heap.size, 0, none⟩ = some (.pointer (some ⟨g, 0, none⟩)) := (hb13.cell (World.block_lt_of_cell? w1 _ p0)).trans p0
  have c1 : w3.cell? ⟨g, 0, none⟩ = some (.pointer (some ⟨p, 0, none⟩)) := by obtain ⟨_, _, hb3g, _⟩ := h3.log; rw [hb3g.cell]; rfl
  have c2 : w3.cell? ⟨w2.heap.size, 0, none⟩ = some (.string (segS s n)) := by rw [k4.cell]; rfl
  have HC := Lib.hid (fun X (k : Keep (fun _ => False) w3 X) => And.intro (k.cell c0 (fun h => h)) (And.intro (k.cell c1 (fun h => h)) (k.cell c2 (fun h => h))))
  have HR := Lib.hid (fun X (k : Below w3.heap.size w3 X) => my_read (h3.disk.below k).my (segS s n))
  have HX := Lib.hid (And.intro k4 (And.intro hb13 hz3))
  have HW3 := Lib.hid hw3
  have HB2 := Lib.hid hb2
  clear hb2 hw3 hb3 k4 hb13 h3 c0 c1 c2 p0 p1 hz3
  go_wp2_with fail
  try rw [← HW3.out]
  have HB := Lib.hid (show ∀ X, Keep (fun _ => False) w3.drew X → Keep (fun _ => False) w3 X from fun X hX => (Keep.of_below ((Below.refl _ _).drew)).trans hX (fun _ h => h) (fun _ _ h => h))
  refine wp_region_held_drew (S := fun X => Keep (fun _ => False) w3.drew X) hfo (Keep.refl _ _) (fun hS0 => ?_)
  generalize w3.drew = Z0 at hS0 HB ⊢
  refine' wpAnyH_take (i := 0) (oi := ⟨some 16, _, _, _, _, _⟩) (v := _) rfl (by kernel_rfl) (by kernel_rfl) (by kernel_rfl) (fun _ _ _ h => h) (Or.inl ⟨by rfl, ?y0⟩) hS0 ?r0
  case y0 => (intro w' hSw; obtain ⟨s0, s1, s2⟩ := HC.out w' (HB.out w' hSw); go_simp; try rfl)
  try simp only [Act.put, List.setIfInBounds_toArray, List.set_cons_zero, List.set_cons_succ]
  refine' wpAnyH_take (i := 1) (oi := ⟨some 17, _, _, _, _, _⟩) (v := _) rfl (by kernel_rfl) (by kernel_rfl) (by kernel_rfl) (fun _ _ _ h => h) (Or.inl ⟨by rfl, ?y1⟩) hS0 ?r1
  case y1 => (intro w' hSw; obtain ⟨s0, s1, s2⟩ := HC.out w' (HB.out w' hSw); go_simp; try rfl)
  try simp only [Act.put, List.setIfInBounds_toArray, List.set_cons_zero, List.set_cons_succ]
  refine' wpAnyH_take (i := 2) (oi := ⟨some 18, _, _, _, _, _⟩) (v := _) rfl (by kernel_rfl) (by kernel_rfl) (by kernel_rfl) (fun _ _ _ h => h) (Or.inl ⟨by rfl, ?y2⟩) hS0 ?r2
  case y2 => (intro w' hSw; obtain ⟨s0, s1, s2⟩ := HC.out w' (HB.out w' hSw); go_simp; try rfl)
  try simp only [Act.put, List.setIfInBounds_toArray, List.set_cons_zero, List.set_cons_succ]
  refine' wpAnyH_take (i := 3) (oi := ⟨some 19, _, _, _, _, _⟩) (v := _) rfl (by kernel_rfl) (by kernel_rfl) (by kernel_rfl) (fun _ _ _ h => h) (Or.inl ⟨by rfl, ?y3⟩) hS0 ?r3
  case y3 => (intro w' hSw; obtain ⟨s0, s1, s2⟩ := HC.out w' (HB.out w' hSw); go_simp; try rfl)
  try simp only [Act.put, List.setIfInBounds_toArray, List.set_cons_zero, List.set_cons_succ]
  refine' wpAnyH_take (i := 4) (oi := ⟨some 20, _, _, _, _, _⟩) (v := _) rfl (by kernel_rfl) (by kernel_rfl) (by kernel_rfl) (fun _ _ _ h => h) (Or.inl ⟨by rfl, ?y4⟩) hS0 ?r4
  case y4 => (intro w' hSw; obtain ⟨s0, s1, s2⟩ := HC.out w' (HB.out w' hSw); go_simp; try rfl)
  try simp only [Act.put, List.setIfInBounds_toArray, List.set_cons_zero, List.set_cons_succ]
  refine held_one (i := 5) (by kernel_rfl) rfl (fun K hK => ?_)
  go_simp
  refine (HR.out _ ⟨(HB.out _ hS0).os, (HB.out _ hS0).tape, (HB.out _ hS0).output, (HB.out _ hS0).size, fun k hk => (HB.out _ hS0).block k hk (fun h => h)⟩).mono ?_
  rintro e Z1 ⟨vb, rfl, hob, hzb⟩
  have hS1 := hS0.trans (Keep.of_below (S := fun _ => False) hzb) (fun _ h => h) (fun _ _ h => h)
  refine hK.out _ _ hS1 (fun _ => ?_)
  clear hK K
  try simp only [Act.put, List.setIfInBounds_toArray, List.set_cons_zero, List.set_cons_succ]
  refine' wpAnyH_take (i := 6) (oi := ⟨some 15, _, _, _, _, _⟩) (v := _) rfl (by kernel_rfl) (by kernel_rfl) (by kernel_rfl) (fun _ _ _ h => h) (Or.inl ⟨by rfl, ?y6⟩) hS1 ?r6
  case y6 => (intro w' hSw; obtain ⟨s0, s1, s2⟩ := HC.out w' (HB.out w' hSw); go_simp; try rfl)
  try simp only [Act.put, List.setIfInBounds_toArray, List.set_cons_zero, List.set_cons_succ]
  refine' wpAnyH_take (i := 7) (oi := ⟨some 22, _, _, _, _, _⟩) (v := _) rfl (by kernel_rfl) (by kernel_rfl) (by kernel_rfl) (fun _ _ _ h => h) (Or.inl ⟨by rfl, ?y7⟩) hS1 ?r7
  case y7 => (intro w' hSw; obtain ⟨s0, s1, s2⟩ := HC.out w' (HB.out w' hSw); go_simp; try rfl)
  try simp only [Act.put, List.setIfInBounds_toArray, List.set_cons_zero, List.set_cons_succ]
  refine' wpAnyH_take (i := 8) (oi := ⟨some 23, _, _, _, _, _⟩) (v := _) rfl (by kernel_rfl) (by kernel_rfl) (by kernel_rfl) (fun _ _ _ h => h) (Or.inl ⟨by rfl, ?y8⟩) hS1 ?r8
  case y8 => (intro w' hSw; obtain ⟨s0, s1, s2⟩ := HC.out w' (HB.out w' hSw); go_simp; try rfl)
  try simp only [Act.put, List.setIfInBounds_toArray, List.set_cons_zero, List.set_cons_succ]
  refine' wpAnyH_take (i := 9) (oi := ⟨some 7, _, _, _, _, _⟩) (v := _) rfl (by kernel_rfl) (by kernel_rfl) (by kernel_rfl) (fun _ _ _ h => h) (Or.inl ⟨by rfl, ?y9⟩) hS1 ?r9
  case y9 => (intro w' hSw; obtain ⟨s0, s1, s2⟩ := HC.out w' (HB.out w' hSw); go_simp; try rfl)
  try simp only [Act.put, List.setIfInBounds_toArray, List.set_cons_zero, List.set_cons_succ]
  refine' wpAnyH_take (i := 10) (oi := ⟨some 8, _, _, _, _, _⟩) (v := _) rfl (by kernel_rfl) (by kernel_rfl) (by kernel_rfl) (fun _ _ _ h => h) (Or.inl ⟨by rfl, ?y10⟩) hS1 ?r10
  case y10 => (intro w' hSw; obtain ⟨s0, s1, s2⟩ := HC.out w' (HB.out w' hSw); go_simp; try rfl)
  try simp only [Act.put, List.setIfInBounds_toArray, List.set_cons_zero, List.set_cons_succ]
  refine wpAnyH_done (by kernel_rfl) ?_ _
  have hK3 := HB.out _ hS1
  have hb35 : Below w3.heap.size w3 Z1 := ⟨hK3.os, hK3.tape, hK3.output, hK3.size, fun k hk => hK3.block k hk (fun h => h)⟩
  rw [← HBE.out] at hob
  obtain ⟨Ab, cb, hvb, _⟩ := id hob.sl
  subst hvb
  have hsb := hob.sl
  have HWH := Lib.hid (whole_any _ _ Z1 hsb hlb)
  have HB35 := Lib.hid hb35
  clear HB HC HR hK3 hb35 hob hzb hS0 hS1
  go_wp2_with fail
  refine HWH.out.mono ?_
  rintro e w5 ⟨vr, xs, rfl, hxs, hown, hsl, hb5⟩
  obtain ⟨Ar, car, hvr⟩ := row_shape hown
  subst hvr
  obtain ⟨w6, hw6⟩ : ∃ w6, w6 = (w5.alloc (.cells #[.slice Ar xs.length car] 27)).alloc (.cells #[.int .i64 (endR xs : Int)] 3) := ⟨_, rfl⟩
  have hb6 : Below w5.heap.size w5 w6 := by rw [hw6]; exact ((Below.refl _ w5).alloc (Nat.le_refl _) _).alloc (by simp) _
  have k9 : Blk w6 w5.heap.size 27 #[.slice Ar xs.length car] := by rw [hw6]; exact (Blk.new w5 _ _).alloc _
  have k10 : Blk w6 (w5.heap.size + 1) 3 #[.int .i64 (endR xs : Int)] := by
    have := Blk.new (w5.alloc (.cells #[.slice Ar xs.length car] 27)) 3 #[.int .i64 (endR xs : Int)]
    rw [World.size_alloc] at this
    rw [hw6]; exact this
  obtain ⟨hb1, k0, k1, h1⟩ := HK.out
  obtain ⟨k4, hb13, hz3⟩ := HX.out
  have hbZ : Below w1.heap.size w1 Z1 := hb13.trans (HB35.out.mono hb13.size)
  have hb15 : Below w1.heap.size w1 w5 := hbZ.trans (hb5.mono hbZ.size)
  have hb16 : Below w1.heap.size w1 w6 := hb15.trans (hb6.mono hb15.size)
  have hb06 : Below w.heap.size w w6 := hb1.trans (hb16.mono hb1.size)
  have hwz : w.heap.size ≤ Z1.heap.size := Nat.le_trans hb1.size hbZ.size
  have hta : TakeAt w.heap.size w6 g n s xs (.slice Ar xs.length car) w.heap.size (w.heap.size + 1) w2.heap.size w5.heap.size (w5.heap.size + 1) := by
    have k4' : Blk w6 w2.heap.size 9 #[.string (segS s n)] := ((k4.below HB35.out k4.lt).below hb5 (Nat.lt_of_lt_of_le k4.lt HB35.out.size)).below hb6 (Nat.lt_of_lt_of_le (Nat.lt_of_lt_of_le k4.lt HB35.out.size) hb5.size)
    refine ⟨⟨Nat.le_refl _, k0.below hb16 k0.lt⟩, ⟨Nat.le_succ _, k1.below hb16 k1.lt⟩, ⟨by have := HB2.out.size; have := hb1.size; omega, k4'⟩, ⟨by have := hb15.size; have := hb1.size; omega, k9⟩, ⟨by have := hb15.size; have := hb1.size; omega, k10⟩, ?_, fun x hx => ?_⟩
    · have h2 := row_kept hown (fun k cs hk => hk.below hb6 hk.lt)
      refine ⟨h2.1, ?_⟩
      rcases h2.2 with h | ⟨g, cap, cur, e1, e2, r⟩
      · exact .inl h
      · exact .inr ⟨g, cap, cur, e1, by omega, r⟩
    · obtain ⟨A, e, ha⟩ := (hsl x hx).kept (fun k cs _ hk => hk.below hb6 hk.lt)
      refine ⟨A, e, fun hp => ?_⟩
      obtain ⟨b', o, cs, e2, hb', hc⟩ := ha hp
      exact ⟨b', o, cs, e2, ⟨by have := hb'.ge; omega, hb'.blk⟩, hc⟩
  have q9 : w6.cell? ⟨w5.heap.size, 0, none⟩ = some (.slice Ar xs.length car) := by rw [k9.cell]; rfl
  have q10 : w6.cell? ⟨w5.heap.size + 1, 0, none⟩ = some (.int .i64 (endR xs : Int)) := by rw [k10.cell]; rfl
  have HXS := Lib.hid hxs
  have HTA := Lib.hid (And.intro hta hb06)
  have HW6 := Lib.hid hw6
  obtain ⟨ez, hez⟩ : ∃ ez, ez = endR xs := ⟨_, rfl⟩
  rw [← hez] at q10 HW6
  have HEZ := Lib.hid hez
  clear hw6 hb6 k9 k10 hb1 k0 k1 h1 k4 hb13 hbZ hb15 hb16 hb06 hwz hta hown hsl hb5 hsb hxs hez hz3
  by_cases hx0 : xs = []
  · have hx0l : xs.length = 0 := by rw [hx0]; rfl
    rw [hx0l] at q9 HW6
    have HX0 := Lib.hid hx0
    rw [hx0l]
    clear hx0 hx0l
    go_wp2_with fail
    try rw [← HEZ.out]
    try rw [← HW6.out]
    go_wp2
    go_ret2
    exact ⟨xs, HXS.out, HTA.out.2, .inl ⟨HX0.out, rfl⟩⟩
  · have hxp : 0 < xs.length := List.length_pos_iff.2 hx0
    have hxb : ((xs.length : Int) == 0) = false := by rw [beq_eq_false_iff_ne]; omega
    have HX0 := Lib.hid (And.intro hx0 hxp)
    obtain ⟨xl, hxl⟩ : ∃ xl, xl = xs.length := ⟨_, rfl⟩
    rw [← hxl] at hxb q9 HW6
    rw [← hxl]
    have HXL := Lib.hid hxl
    clear hx0 hxp hxl
    obtain ⟨hta, hb06⟩ := HTA.out
    by_cases hcut : ez < b.length
    · have hlt : (ez : Int) < (b.length : Int) := by omega
      have hdt : decide (endR xs < b.length) = true := decide_eq_true (by rw [← HEZ.out]; exact hcut)
      obtain ⟨w7, hw7⟩ : ∃ w7, w7 = w6.alloc (.cells (([((134 : Nat), #[.pointer (some ⟨w.heap.size, 0, none⟩), .pointer (some ⟨w2.heap.size, 0, none⟩), .pointer (some ⟨w5.heap.size + 1, 0, none⟩)])] : List (Nat × Array Value)).map fnV).toArray 150) := ⟨_, rfl⟩
      have ha7 := append_steps (w := w) (B := w.heap.size) (v := .slice none 0 0) (xs := []) hw7 (World.ownsRow_nil _ _ _ _) (by simp)
      have HA7 := Lib.hid (And.intro ha7 (And.intro (hta.below ha7.2.2.2.2) (hb06.trans (ha7.2.2.2.2.mono hb06.size))))
      have HW7 := Lib.hid (show w7 = w6.alloc (.cells #[.func (.func 134) #[] #[.pointer (some ⟨w.heap.size, 0, none⟩), .pointer (some ⟨w2.heap.size, 0, none⟩), .pointer (some ⟨w5.heap.size + 1, 0, none⟩)]] 150) from by rw [hw7]; rfl)
      have HDT := Lib.hid hdt
      clear ha7 hw7 hcut hdt hta hb06
      go_upto_if 35 with (fail)
      try rw [← HEZ.out]
      try rw [← HW6.out]
      obtain ⟨v0, hv0⟩ : ∃ v0, v0 = Value.slice none 0 0 := ⟨_, rfl⟩
      rw [← hv0] at HA7 ⊢
      have HV0 := Lib.hid hv0
      clear hv0
      go_wp2_with (at_builtin; rw [← HW7.out]; go_loud (refine wpList_append_own_at _ rfl _ _ 101 rfl w.heap.size 150 i0 .nilFunc 1 8 Tryz.underlying101 hi hy0 hy1 hy2 rfl (by decide) v0 0 _ rfl HA7.out.1.1 ⟨w6.heap.size, 0, none⟩ 1 1 _ rfl rfl HA7.out.1.2.1 cells_one HA7.out.1.2.2.1 HA7.out.1.2.2.2.1 HA7.out.2.2.size ?_))
      intro v8 w8 ho8 hg8 _ _
      obtain ⟨⟨hst7, _⟩, hta7, hb07⟩ := HA7.out
      rw [HV0.out] at hst7 hg8
      have hst8 : Stps w.heap.size w8 v8 [((134 : Nat), #[.pointer (some ⟨w.heap.size, 0, none⟩), .pointer (some ⟨w2.heap.size, 0, none⟩), .pointer (some ⟨w5.heap.size + 1, 0, none⟩)])] := by
        unfold Stps
        simpa using ho8
      have hta8 := hta7.kept (W' := w8) (fun k t c _ ht hk => grown_blk hst7 hg8 hk ht)
      have hb08 := grown_below hst7 hg8 hb07 hb07.size
      obtain ⟨A8, c8, hv8⟩ := hst8.shape
      subst hv8
      clear hst7 hta7 hb07 ho8 hg8 HA7 HW7
      obtain ⟨w9, hw9⟩ : ∃ w9, w9 = w8.alloc (.cells ((takeFns false w.heap.size (w.heap.size + 1) w2.heap.size w5.heap.size (w5.heap.size + 1)).map fnV).toArray 150) := ⟨_, rfl⟩
      have ha9 := append_steps (w := w) hw9 hst8 (by simp [takeFns])
      have HA9 := Lib.hid (And.intro ha9 (And.intro (hta8.below ha9.2.2.2.2) (hb08.trans (ha9.2.2.2.2.mono hb08.size))))
      have HW9 := Lib.hid (show w9 = w8.alloc (.cells #[.func (.func 136) #[] #[.pointer (some ⟨w.heap.size, 0, none⟩), .pointer (some ⟨w2.heap.size, 0, none⟩)], .func (.func 137) #[] #[.pointer (some ⟨w.heap.size + 1, 0, none⟩), .pointer (some ⟨w5.heap.size, 0, none⟩), .pointer (some ⟨w5.heap.size + 1, 0, none⟩), .pointer (some ⟨w.heap.size, 0, none⟩)]] 150) from by rw [hw9]; rfl)
      clear ha9 hw9 hst8 hta8 hb08
      go_wp2_with (at_builtin; rw [← HW9.out]; go_loud (refine wpList_append_own_at _ rfl _ _ 101 rfl w.heap.size 150 i0 .nilFunc 1 8 Tryz.underlying101 hi hy0 hy1 hy2 rfl (by decide) (.slice A8 1 c8) 1 _ rfl HA9.out.1.1 ⟨w8.heap.size, 0, none⟩ 2 2 _ rfl rfl HA9.out.1.2.1 cells_one HA9.out.1.2.2.1 HA9.out.1.2.2.2.1 HA9.out.2.2.size ?_))
      intro v' w10 ho10 hg10 _ _
      obtain ⟨⟨hst9, _⟩, hta9, hb09⟩ := HA9.out
      have hst10 : Stps w.heap.size w10 v' (takeFns (decide (endR xs < b.length)) w.heap.size (w.heap.size + 1) w2.heap.size w5.heap.size (w5.heap.size + 1)) := by
        rw [HDT.out]
        unfold Stps
        simpa [takeFns] using ho10
      have HE := Lib.hid (And.intro hst10 (And.intro (hta9.kept (W' := w10) (fun k t c _ ht hk => grown_blk hst9 hg10 hk ht)) (grown_below hst9 hg10 hb09 hb09.size)))
      clear hst9 hta9 hb09 hst10 ho10 hg10 HA9 HW9
      go_wp2
      go_ret2
      exact ⟨xs, HXS.out, HE.out.2.2, .inr ⟨HX0.out.1, _, _, _, _, _, _, _, rfl, HE.out.1, HE.out.2.1⟩⟩
    · have hlt : ¬ (ez : Int) < (b.length : Int) := by omega
      have hdt : decide (endR xs < b.length) = false := decide_eq_false (by rw [← HEZ.out]; exact hcut)
      have HDT := Lib.hid hdt
      obtain ⟨w9, hw9⟩ : ∃ w9, w9 = w6.alloc (.cells ((takeFns false w.heap.size (w.heap.size + 1) w2.heap.size w5.heap.size (w5.heap.size + 1)).map fnV).toArray 150) := ⟨_, rfl⟩
      have ha9 := append_steps (w := w) (B := w.heap.size) (v := .slice none 0 0) (xs := []) hw9 (World.ownsRow_nil _ _ _ _) (by simp [takeFns])
      have HA9 := Lib.hid (And.intro ha9 (And.intro (hta.below ha9.2.2.2.2) (hb06.trans (ha9.2.2.2.2.mono hb06.size))))
      have HW9 := Lib.hid (show w9 = w6.alloc (.cells #[.func (.func 136) #[] #[.pointer (some ⟨w.heap.size, 0, none⟩), .pointer (some ⟨w2.heap.size, 0, none⟩)], .func (.func 137) #[] #[.pointer (some ⟨w.heap.size + 1, 0, none⟩), .pointer (some ⟨w5.heap.size, 0, none⟩), .pointer (some ⟨w5.heap.size + 1, 0, none⟩), .pointer (some ⟨w.heap.size, 0, none⟩)]] 150) from by rw [hw9]; rfl)
      clear ha9 hw9 hcut hdt hta hb06
      go_upto_if 35 with (fail)
      try rw [← HEZ.out]
      try rw [← HW6.out]
      obtain ⟨v0, hv0⟩ : ∃ v0, v0 = Value.slice none 0 0 := ⟨_, rfl⟩
      rw [← hv0] at HA9 ⊢
      have HV0 := Lib.hid hv0
      clear hv0
      go_wp2_with (at_builtin; rw [← HW9.out]; go_loud (refine wpList_append_own_at _ rfl _ _ 101 rfl w.heap.size 150 i0 .nilFunc 1 8 Tryz.underlying101 hi hy0 hy1 hy2 rfl (by decide) v0 0 _ rfl HA9.out.1.1 ⟨w6.heap.size, 0, none⟩ 2 2 _ rfl rfl HA9.out.1.2.1 cells_one HA9.out.1.2.2.1 HA9.out.1.2.2.2.1 HA9.out.2.2.size ?_))
      intro v' w10 ho10 hg10 _ _
      obtain ⟨⟨hst9, _⟩, hta9, hb09⟩ := HA9.out
      rw [HV0.out] at hst9 hg10
      have hst10 : Stps w.heap.size w10 v' (takeFns (decide (endR xs < b.length)) w.heap.size (w.heap.size + 1) w2.heap.size w5.heap.size (w5.heap.size + 1)) := by
        rw [HDT.out]
        unfold Stps
        simpa [takeFns] using ho10
      have HE := Lib.hid (And.intro hst10 (And.intro (hta9.kept (W' := w10) (fun k t c _ ht hk => grown_blk hst9 hg10 hk ht)) (grown_below hst9 hg10 hb09 hb09.size)))
      clear hst9 hta9 hb09 hst10 ho10 hg10 HA9 HW9
      go_wp2
      go_ret2
      exact ⟨xs, HXS.out, HE.out.2.2, .inr ⟨HX0.out.1, _, _, _, _, _, _, _, rfl, HE.out.1, HE.out.2.1⟩⟩
end Go.Proofs.YtibifnknkphanaaGreatDoor

/-
  slices.Backward over numbers; what the steps of an opening come to; closures put behind closures.
-/
namespace Go.Proofs.YtibifnknkphanaaGreatDoor
open Go.RowKit Go.Maps
open DskM WalM
set_option linter.unusedVariables false
set_option linter.unusedSimpArgs false
set_option maxRecDepth 20000
attribute [local go_sem] Oper.semAt_some

section
variable {D T : Nat → Prop} {w : World} {g p : Nat} {s : ByteArray} {most : Int}
theorem taking_ok {B n cl cn cf cr cz : Nat} {xs : List Rec} {vr : Value} (hB : ∀ k, B ≤ k → ¬ (D k ∨ T k)) (hfar : Far (fun j => B ≤ j)) (h : TakeAt B w g n s xs vr cl cn cf cr cz) (hne : xs ≠ []) (hn : n ≤ 2147483647) (hx : xs.length ≤ 1000000) (b : List UInt8) (hb : xs.map (·.2) = wholeP b) :
    ∃ rb, vr.ownBlock = some rb ∧ B ≤ rb ∧ (∃ C, Blk w rb 22 C) ∧ ∀ E ys gs, StepsOk D w g p s most E (fun j => T j ∨ j = rb) ys gs → StepsOk D w g p s most E T (takeFns (decide (endR xs < b.length)) cl cn cf cr cz ++ ys) (takeSteps s n b ++ gs) := by
  have e1 : endP (wholeP b) = endR xs := by rw [endR_P, hb]
  have e2 : (wholeP b).map (·.1) = xs.map (·.2.1) := by rw [← hb, List.map_map]; rfl
  obtain ⟨x, xs', rfl⟩ : ∃ x xs', xs = x :: xs' := by
    cases xs with
    | nil => exact absurd rfl hne
    | cons x xs' => exact ⟨x, xs', rfl⟩
  unfold takeSteps
  rw [e1, e2]
  rcases h.own.2 with ⟨_, h0⟩ | ⟨rb, cap, cur, hv, hg, hh, h1, h2, h3, h4⟩
  · simp at h0
  have hbl : Blk w rb 22 cur := hh
  refine ⟨rb, by rw [hv]; rfl, hg, ⟨cur, hbl⟩, fun E ys gs k => ?_⟩
  have hrow : RowT (fun j => j = rb) (fun k => ¬ D k ∧ ¬ T k) w (.slice (some ⟨rb, 0, none⟩) ((xs'.map (·.2.1)).length + 1) cap) (x.2.1 :: xs'.map (·.2.1)) := by
    refine ⟨_, cap, (x :: xs').map (·.1), by simp, by simpa using h1, h2, by simp, fun i hi hi2 => ?_, .inr ⟨rb, 0, cur, rfl, rfl, hbl, by omega, fun i hi => ?_⟩⟩
    · have hi3 : i < (x :: xs').length := by simpa using hi
      show SlT _ w ((x :: xs').map (·.1))[i] ((x :: xs').map (·.2.1))[i]
      rw [List.getElem_map, List.getElem_map]
      exact (h.sl _ (List.getElem_mem hi3)).slT (fun k h1 _ => ⟨fun e => hB k h1 (.inl e), fun e => hB k h1 (.inr e)⟩)
    · have hi3 : i < (x :: xs').length := by simpa using hi
      rw [← h4, Nat.zero_add, List.getElem?_take_of_lt (by omega), Array.getElem?_toList]
  have hno : ∀ {k t c}, B ≤ k → Blk w k t c → t ≠ 22 → ¬ (D k ∨ T k ∨ k = rb) := fun {k t c} hk hb2 ht e => by
    rcases e with e | e | e
    · exact hB k hk (.inl e)
    · exact hB k hk (.inr e)
    · subst e
      have e := hb2.symm.trans hbl
      injection e with e
      injection e with _ e
      exact ht e
  have hx2 : (xs'.map (·.2.1)).length ≤ 1000000 := by
    rw [List.length_map]
    simp at hx
    omega
  have tk := take_step (D := D) (T := T) (p := p) (s := s) (most := most) cn cr cz cl n (endR (x :: xs')) rb cap x.2.1 (xs'.map (·.2.1)) (by rw [h.bn.2.cell]; rfl) (hno h.bn.1 h.bn.2 (by decide)) (by rw [h.br.2.cell, hv]; simp) (hno h.br.1 h.br.2 (by decide))
    (by rw [h.bz.2.cell]; rfl) (hno h.bz.1 h.bz.2 (by decide)) (by rw [h.bl.2.cell]; rfl) (hno h.bl.1 h.bl.2 (by decide)) (hB rb hg) (fun i hi => hfar i (by rw [hi]; exact hg)) hrow hn hx2
  have tk2 : StepsOk D w g p s most E T (_ :: ys) (_ :: gs) := .cons (fun j hj => k.sub j (.inl hj)) tk k
  have sy := tsync_step (D := D) (T := T) (p := p) (s := s) (most := most) cl cf (segS s n) (by rw [h.bl.2.cell]; rfl) (hB _ h.bl.1) (by rw [h.bf.2.cell]; rfl) (hB _ h.bf.1)
  cases hc : decide (endR (x :: xs') < b.length) with
  | true =>
    have cu := cut_step (D := D) (T := T) (p := p) (s := s) (most := most) cl cf cz (segS s n) (endR (x :: xs') : Nat) (by rw [h.bl.2.cell]; rfl) (hB _ h.bl.1) (by rw [h.bf.2.cell]; rfl) (hB _ h.bf.1) (by rw [h.bz.2.cell]; rfl) (hB _ h.bz.1)
    exact (AllOk.cons cu (.cons sy .nil)).on tk2
  | false => exact (AllOk.cons sy .nil).on tk2
end
theorem run_append_steps {B B' : Nat} {W : World} {v u : Value} {xs ys : List (Nat × Array Value)} (hv : Stps B W v xs) (hu : Stps B' W u ys) (hl : xs.length + ys.length ≤ 1000000) (hB : B ≤ W.heap.size) (ty : TypeId) :
    ∃ v' W', (Builtin.append_ #[101, 101] ty #[v, u]).run Tryz.prog W = .ok v' W' ∧ Stps B W' v' (xs ++ ys) ∧ W.grownBy W' v.ownBlock := by
  obtain ⟨i0, hi, hy0, hy1, hy2⟩ := info_parts info_step
  rcases hu.2 with ⟨rfl, h0⟩ | ⟨g, cap, cur, rfl, hg, hh, h1, h2, h3, h4⟩
  · have h9 : ys = [] := List.eq_nil_of_length_eq_zero h0
    subst h9
    refine ⟨v, W, run_append_owned_none (P := Tryz.prog) (w := W) B _ ty 150 i0 1 Tryz.underlying101 hi v xs.length _ hv, by rw [List.append_nil]; exact hv, ⟨rfl, rfl, rfl, Nat.le_refl _, fun _ _ _ => rfl⟩⟩
  · have hbl : Blk W g 150 cur := hh
    have hcell : ∀ (j : Nat) (u : Value), (ys.map fnV)[j]? = some u → W.cell? ((⟨g, 0, none⟩ : Addr).add j) = some u := by
      intro j u hu'
      have hj : j < ys.length := by have := (List.getElem?_eq_some_iff.1 hu').1; simpa using this
      rw [add_plain, hbl.cell, Nat.zero_add, ← hu', ← h4, List.getElem?_take_of_lt (by omega), Array.getElem?_toList]
    obtain ⟨v', w', hr, h2', h3', _, h5'⟩ := run_append_own_at (P := Tryz.prog) W B 101 ty 150 i0 .nilFunc 1 8 Tryz.underlying101 hi hy0 hy1 hy2 rfl (by decide) v xs.length (xs.map fnV) hv ⟨g, 0, none⟩ ys.length cap (ys.map fnV) (by simp) hcell cells_one (by unfold maxLen; omega) (by omega) hB
    refine ⟨v', w', hr, ?_, h3'⟩
    unfold Stps
    rw [List.length_append, List.map_append]
    exact h2'
/-! slices.Backward. -/
abbrev IdxOf (ns : List Nat) := { x : Nat × Nat // x.1 < ns.length ∧ x.2 = ns.getD x.1 0 }
def encB {ns : List Nat} (x : IdxOf ns) : Array Value := #[.int .i64 (x.1.1 : Int), .int .i64 (x.1.2 : Int)]
def revE (ns : List Nat) : List (IdxOf ns) := (List.finRange ns.length).reverse.map fun i => ⟨(i.1, ns.getD i.1 0), i.2, rfl⟩
theorem revE_len (ns : List Nat) : (revE ns).length = ns.length := by simp [revE]
theorem revE_at (ns : List Nat) (k : Nat) (h : k < (revE ns).length) : ((revE ns)[k]).1.1 = ns.length - 1 - k := by
  simp [revE]
/-- What a round of Backward leaves alone. -/
def KpB (bx : Nat) (v : Value) (A B : World) : Prop := A.heap.size ≤ B.heap.size ∧ B.heap[bx]? = A.heap[bx]? ∧ ∀ k, v.ownBlock = some k → B.heap[k]? = A.heap[k]?
theorem KpB.refl (bx : Nat) (v : Value) (A : World) : KpB bx v A A := ⟨Nat.le_refl _, rfl, fun _ _ => rfl⟩
theorem KpB.trans {bx : Nat} {v : Value} {A B C : World} (h : KpB bx v A B) (k : KpB bx v B C) : KpB bx v A C := ⟨Nat.le_trans h.1 k.1, k.2.1.trans h.2.1, fun i hi => (k.2.2 i hi).trans (h.2.2 i hi)⟩
theorem backward_any (A : Option Addr) (n c : Nat) (w : World) : Calls Tryz.prog 104 #[.slice A n c] w fun e w' => e = .returned (.func (.func 133) #[] #[.pointer (some ⟨w.heap.size, 0, none⟩)]) ∧ Blk w' w.heap.size 35 #[.slice A n c] ∧ Below w.heap.size w w' := by
  have hmf : ∀ (fn : Fn) (first cap : Array Value) (w : World), (Instr.makeFunc fn first cap).run Tryz.prog w = .ok (.func fn first cap) w := fun _ _ _ _ => rfl
  go_enter Tryz.func104, Tryz.ntmps104
  go_wp2
  go_ret
  exact ⟨rfl, Blk.new _ _ _, al_one w _⟩
set_option maxHeartbeats 4000000 in
theorem back_seq (n : Nat) (hn : 1 ≤ n) (B bx : Nat) (v : Value) (ns : List Nat) (hl : ns.length ≤ 1000000) (w : World) (hbx : Blk w bx 35 #[v]) (hv : OwnI w B v ns) :
    SeqX Fence.wide n Tryz.prog 133 #[.pointer (some ⟨bx, 0, none⟩)] (encB (ns := ns)) (fun _ _ => True) (fun A B => A = B) (KpB bx v) (fun xs => xs = revE ns) (fun pre => ∃ k, k ≤ ns.length ∧ pre = (revE ns).take k) ns.length w := by
  intro l J Jx W hW hJ hJx hY h0
  have hbx0 : Blk W bx 35 #[v] := hbx.below hW hbx.lt
  have hv0 : OwnI W B v ns := hv.keep (fun k hk => hW.block k (hv.lt k hk).2)
  have HV := Lib.hid (show ∀ X, KpB bx v W X → Blk X bx 35 #[v] ∧ OwnI X B v ns from fun X hX => ⟨hX.2.1.trans hbx0, hv0.keep (fun k hk => hX.2.2 k hk)⟩)
  obtain ⟨A, c, hvv⟩ := hv.shape
  subst hvv
  have q0 : W.cell? ⟨bx, 0, none⟩ = some (.slice A ns.length c) := by rw [hbx0.cell]; rfl
  clear hbx hv hbx0 hv0 hJ hJx hW
  have HY := Lib.hid hY
  clear hY
  refine callsIn_of_wp Tryz.func133 rfl trivial ?_ rfl
  simp only [Tryz.ntmps133, List.size_toArray, List.length_cons, List.length_nil, Nat.reduceAdd, Nat.reduceSub, Array.replicate_succ, Array.replicate_zero, List.push_toArray, List.append_toArray, List.nil_append, List.cons_append]
  have hw0 : IntKind.i64.wrap ((ns.length : Int) - 1) = (ns.length : Int) - 1 := by rw [IntKind.wrap_i64] <;> omega
  gi_wp2
  gi_loopw [3] (fun i wr => ∃ k : Nat, k ≤ ns.length ∧ i = .int .i64 ((ns.length : Int) - 1 - (k : Int)) ∧ J ((revE ns).take k) wr ∧ KpB bx (.slice A ns.length c) W wr)
    (fun i _ => (intOf i + 1).toNat)
  case atStart => exact ⟨0, Nat.zero_le _, by simp, h0, KpB.refl _ _ _⟩
  case round =>
    obtain ⟨k, hk, rfl, hJs, hnx⟩ := hrel
    by_cases hlt : k < ns.length
    · obtain ⟨hbx1, hv1⟩ := HV.out wr hnx
      have p0 : wr.cell? ⟨bx, 0, none⟩ = some (.slice A ns.length c) := by rw [hbx1.cell]; rfl
      obtain ⟨j, hj⟩ : ∃ j : Nat, (ns.length : Int) - 1 - (k : Int) = (j : Int) := ⟨ns.length - 1 - k, by omega⟩
      have hjl : j < ns.length := by omega
      obtain ⟨b, hA⟩ : ∃ b, A = some ⟨b, 0, none⟩ := by
        rcases hv1.2 with ⟨e, h0⟩ | ⟨b, cap, cur, e, _⟩
        · omega
        · injection e with e1 _ _; exact ⟨b, e1⟩
      subst hA
      have p1 : wr.cell? ⟨b, j, none⟩ = some (.int .i64 (ns.getD j 0 : Nat)) := by
        rw [World.ownsRow.cellAt hv1 j (by omega)]
        simp [iv, List.getD, List.getElem?_eq_getElem hjl]
      have hka : k < (revE ns).length := by rw [revE_len]; exact hlt
      obtain ⟨x, hx⟩ : ∃ x, (revE ns)[k] = x := ⟨_, rfl⟩
      have hx1 : x.1.1 = j := by rw [← hx, revE_at]; omega
      have hx2 : x.1.2 = ns.getD j 0 := by rw [x.2.2, hx1]
      have hts : (revE ns).take (k + 1) = (revE ns).take k ++ [x] := by rw [List.take_succ_eq_append_getElem hka, hx]
      obtain ⟨fn, tmps, assign, body, hy, hR⟩ := HY.out _ x wr hJs trivial (by rw [List.length_take, revE_len]; omega)
      have he : encB x = #[.int .i64 (j : Int), .int .i64 (ns.getD j 0 : Nat)] := by unfold encB; rw [hx1, hx2]
      rw [he] at hy
      have HTS := Lib.hid hts
      have HR := Lib.hid hR
      have HJ := Lib.hid hj
      have HK := Lib.hid (And.intro hk hlt)
      rw [hj]
      have hj0 : (0 : Int) ≤ (j : Int) := by omega
      have hwj : IntKind.i64.wrap ((j : Int) - 1) = (j : Int) - 1 := by rw [IntKind.wrap_i64] <;> omega
      have HX := Lib.hid (And.intro hnx hjl)
      clear hx he hts hR hj hbx1 hv1 hx1 hx2 q0 hk hlt hka hnx hJs
      generalize ns.getD j 0 = nv at hy p1
      generalize hnl : ns.length = nl at p0 hjl hl ⊢
      have HNL := Lib.hid hnl
      clear hnl
      gi_wp2
      refine HR.out.mono ?_
      rintro e W3 (⟨rfl, hJ3, hk3⟩ | ⟨rfl, hJx3⟩)
      · rw [HNL.out] at hk3
        gi_wp2
        go_roundw
        case rel => exact ⟨k + 1, by have := HK.out; have := HNL.out; omega, by have := HJ.out; have := HNL.out; congr 1; omega, by rw [HTS.out]; exact hJ3, by have h := HX.out.1; rw [HNL.out] at h; exact h.trans hk3⟩
        case measure => simp [intOf] <;> omega
      · gi_wp2
        refine bodyPost_ret (results_none rfl _ _ _) rfl ?_
        exact ⟨⟨_, rfl⟩, .inr ⟨_, ⟨k + 1, by have := HK.out; omega, HTS.out.symm⟩, hJx3⟩⟩
    · obtain rfl : k = ns.length := by omega
      have hm1 : (ns.length : Int) - 1 - (ns.length : Int) = -1 := by omega
      rw [hm1]
      gi_wp2
      go_end0
      exact ⟨⟨_, rfl⟩, .inl ⟨_, rfl, by rw [← revE_len, List.take_length] at hJs; exact hJs⟩⟩
end Go.Proofs.YtibifnknkphanaaGreatDoor

/-
  Dots and vectors as cells, a slice of dots, blocks that are written, growing worlds; '==' at vectors and dots. Made of ctx's texts for a seat without ctx.
-/
import Derived.Test.YthlopecllhdmhaaDoorMem
import Derived.Test.YthlopecllhdmhaaDoorCtxMath
import Derived.Deep.MidRow
import Derived.Sort.Grow
import Derived.Laws.Rows
import Derived.Laws.ResultCell
import Derived.ChangeKeysEq
import Derived.Laws.StructEq
namespace Go.Proofs.YthlopecllhdmhaaDoor
open Go.RowKit
open CtxM
set_option linter.unusedVariables false
set_option linter.unusedSimpArgs false
set_option maxRecDepth 20000

def uq (n : Nat) : Value := .int .u64 (n : Int)
def dv (d : Dt) : List Value := [.int .i64 d.1, .int .u64 (d.2 : Int)]
def dvs (L : List Dt) : List Value := L.flatMap dv
theorem dvs_nil : dvs [] = [] := rfl
theorem dvs_cons (d : Dt) (L : List Dt) : dvs (d :: L) = .int .i64 d.1 :: .int .u64 (d.2 : Int) :: dvs L := rfl
theorem dvs_append (L M : List Dt) : dvs (L ++ M) = dvs L ++ dvs M := by unfold dvs; rw [List.flatMap_append]
theorem dvs_length : ∀ L : List Dt, (dvs L).length = L.length * 2
  | [] => rfl
  | d :: L => by rw [dvs_cons, List.length_cons, List.length_cons, List.length_cons, dvs_length L]; omega
theorem dvs_get : ∀ (L : List Dt) (j : Nat) (h : j < L.length), (dvs L)[j * 2]? = some (.int .i64 L[j].1) ∧ (dvs L)[j * 2 + 1]? = some (.int .u64 (L[j].2 : Int))
  | [], j, h => absurd h (by simp)
  | d :: L, 0, _ => by rw [dvs_cons]; exact ⟨rfl, rfl⟩
  | d :: L, j + 1, h => by
    rw [dvs_cons, show (j + 1) * 2 = j * 2 + 1 + 1 by omega]
    exact dvs_get L j (by simpa using h)
theorem dvs_one (L : List Dt) : ∀ v ∈ dvs L, v.oneCell' = true := by
  intro v hv
  obtain ⟨d, _, hd⟩ := List.mem_flatMap.1 hv
  simp [dv] at hd
  rcases hd with rfl | rfl <;> rfl
theorem dvs_take : ∀ (L : List Dt) (n : Nat), (dvs L).take (n * 2) = dvs (L.take n)
  | [], n => by simp [dvs]
  | d :: L, 0 => by simp [dvs]
  | d :: L, n + 1 => by rw [dvs_cons, show (n + 1) * 2 = n * 2 + 1 + 1 by omega, List.take_succ_cons, List.take_succ_cons, dvs_take L n, List.take_succ_cons, dvs_cons]
theorem dvs_drop : ∀ (L : List Dt) (n : Nat), (dvs L).drop (n * 2) = dvs (L.drop n)
  | [], n => by simp [dvs]
  | d :: L, 0 => by simp
  | d :: L, n + 1 => by rw [dvs_cons, show (n + 1) * 2 = n * 2 + 1 + 1 by omega, List.drop_succ_cons, List.drop_succ_cons, dvs_drop L n, List.drop_succ_cons]
/-- The value v is a slice that reads as the dots L in the world w. -/
def Sd (w : World) (v : Value) (L : List Dt) : Prop :=
  ∃ A c, v = .slice A L.length c ∧ L.length ≤ c ∧ (0 < L.length → ∃ b o, A = some ⟨b, o, none⟩ ∧ ∀ j (h : j < L.length), w.cell? ⟨b, o + j * 2, none⟩ = some (.int .i64 L[j].1) ∧ w.cell? ⟨b, o + j * 2 + 1, none⟩ = some (.int .u64 (L[j].2 : Int)))
theorem Sd.nil {w : World} (A : Option Addr) (c : Nat) : Sd w (.slice A 0 c) [] := ⟨A, c, rfl, Nat.zero_le _, fun h => absurd h (by simp)⟩
theorem Sd.keep {w w' : World} {v : Value} {L : List Dt} (h : Sd w v L) (hk : ∀ p : Addr, ∀ u, v.ownBlock = some p.block → w.cell? p = some u → w'.cell? p = some u) : Sd w' v L := by
  obtain ⟨A, c, rfl, hc, ha⟩ := h
  refine ⟨A, c, rfl, hc, fun hn => ?_⟩
  obtain ⟨b, o, rfl, hx⟩ := ha hn
  exact ⟨b, o, rfl, fun j hj => ⟨hk _ _ rfl (hx j hj).1, hk _ _ rfl (hx j hj).2⟩⟩
theorem Sd.below {w w' : World} {v : Value} {L : List Dt} (h : Sd w v L) (hb : Below w.heap.size w w') : Sd w' v L :=
  h.keep fun p u _ hu => (hb.cell (World.block_lt_of_cell? w p hu)).trans hu
theorem Sd.alloc {w : World} {v : Value} {L : List Dt} (h : Sd w v L) (o : Obj) : Sd (w.alloc o) v L :=
  h.keep fun p u _ hu => (World.cell?_alloc_lt w o p (World.block_lt_of_cell? w p hu)).trans hu
theorem Sd.drew {w : World} {v : Value} {L : List Dt} (h : Sd w v L) : Sd w.drew v L := h
theorem Sd.drewN {w : World} {v : Value} {L : List Dt} (h : Sd w v L) (n : Nat) : Sd (w.drewN n) v L := h
theorem Sd.len {w : World} {A : Option Addr} {n c : Nat} {L : List Dt} (h : Sd w (.slice A n c) L) : n = L.length := by
  obtain ⟨A, c, e, _⟩ := h
  injection e
theorem Sd.shape {w : World} {v : Value} {L : List Dt} (h : Sd w v L) : ∃ A n c, v = .slice A n c := by
  obtain ⟨A, c, rfl, _⟩ := h
  exact ⟨A, _, c, rfl⟩
/-- A part of a slice. -/
theorem Sd.sub {w : World} {A : Option Addr} {n c : Nat} {L : List Dt} (h : Sd w (.slice A n c) L) (i j : Nat) (hij : i ≤ j) (hj : j ≤ L.length) (B : Option Addr) (hB : ∀ b o, A = some ⟨b, o, none⟩ → i < j → B = some ⟨b, o + i * 2, none⟩) (hc : j ≤ c) :
    Sd w (.slice B (j - i) (c - i)) ((L.take j).drop i) := by
  obtain ⟨A', c', e, hcc, ha⟩ := h
  injection e with e1 e2 e3
  subst e1; subst e3
  have hl : ((L.take j).drop i).length = j - i := by rw [List.length_drop, List.length_take]; omega
  refine ⟨B, c - i, by rw [hl], by rw [hl]; omega, fun hn => ?_⟩
  rw [hl] at hn
  obtain ⟨b, o, rfl, hx⟩ := ha (by omega)
  refine ⟨b, o + i * 2, hB b o rfl (by omega), fun k hk => ?_⟩
  rw [hl] at hk
  have := hx (i + k) (by omega)
  have e : ((L.take j).drop i)[k]'(by rw [hl]; exact hk) = L[i + k] := by simp
  rw [e, show o + i * 2 + k * 2 = o + (i + k) * 2 by omega]
  exact this
structure Keep (S : Nat → Prop) (w w' : World) : Prop where
  os : w'.os = w.os
  tape : w'.tape = w.tape
  output : w'.output = w.output
  size : w.heap.size ≤ w'.heap.size
  block : ∀ k, k < w.heap.size → ¬ S k → w'.heap[k]? = w.heap[k]?
theorem Keep.of_below {S : Nat → Prop} {w w' : World} (h : Below w.heap.size w w') : Keep S w w' := ⟨h.os, h.tape, h.output, h.size, fun k hk _ => h.block k hk⟩
theorem Keep.refl (S : Nat → Prop) (w : World) : Keep S w w := .of_below (Below.refl _ _)
theorem Keep.trans {S T U : Nat → Prop} {a b c : World} (h : Keep S a b) (k : Keep T b c) (hS : ∀ i, S i → U i) (hT : ∀ i, i < a.heap.size → T i → U i) : Keep U a c :=
  ⟨k.os.trans h.os, k.tape.trans h.tape, k.output.trans h.output, Nat.le_trans h.size k.size, fun i hi hn => (k.block i (Nat.lt_of_lt_of_le hi h.size) fun ht => hn (hT i hi ht)).trans (h.block i hi fun hs => hn (hS i hs))⟩
theorem Keep.below {S : Nat → Prop} {B : Nat} {a b c : World} (h : Below B a b) (k : Keep S b c) (hB : B ≤ b.heap.size) (hS : ∀ i, S i → B ≤ i) : Below B a c :=
  ⟨k.os.trans h.os, k.tape.trans h.tape, k.output.trans h.output, Nat.le_trans h.size k.size, fun i hi => (k.block i (by omega) fun hs => by have := hS i hs; omega).trans (h.block i hi)⟩
theorem Keep.of_grown {S : Nat → Prop} {w w' : World} {row : Option Nat} (h : w.grownBy w' row) (hr : ∀ k, row = some k → S k) : Keep S w w' :=
  ⟨h.os, h.tape, h.output, h.size, fun k hk hn => h.block k hk fun e => hn (hr k e.symm)⟩
theorem Keep.setCell {S : Nat → Prop} (w : World) (p : Addr) (u : Value) (hS : S p.block) : Keep S w (w.setCell p u) :=
  ⟨rfl, rfl, rfl, Nat.le_of_eq (by unfold World.setCell; simp), fun k hk hn => Below.heap_setCell w p u k fun e => hn (e ▸ hS)⟩
theorem Keep.cell {S : Nat → Prop} {w w' : World} (h : Keep S w w') {p : Addr} {u : Value} (hu : w.cell? p = some u) (hn : ¬ S p.block) : w'.cell? p = some u :=
  (World.cell?_of_block (h.block p.block (World.block_lt_of_cell? w p hu) hn)).trans hu
theorem Keep.mono {S T : Nat → Prop} {w w' : World} (h : Keep S w w') (hT : ∀ i, S i → T i) : Keep T w w' :=
  ⟨h.os, h.tape, h.output, h.size, fun k hk hn => h.block k hk fun e => hn (hT k e)⟩
theorem Blk.kept {S : Nat → Prop} {w w' : World} {g : Nat} {t : TypeId} {cs : Array Value} (h : Blk w g t cs) (k : Keep S w w') (hn : ¬ S g) : Blk w' g t cs := (k.block g h.lt hn).trans h
theorem Sd.kept {S : Nat → Prop} {w w' : World} {v : Value} {L : List Dt} (h : Sd w v L) (k : Keep S w w') (hn : ∀ i, v.ownBlock = some i → ¬ S i) : Sd w' v L :=
  h.keep fun p u hp hu => k.cell hu (hn _ hp)
def Grw (w w' : World) : Prop := ∃ q os, w' = Go.Sort.grow (w.drewN q) os
theorem Grw.refl (w : World) : Grw w w := ⟨0, #[], by rw [Go.Sort.grow_empty]; rfl⟩
theorem Grw.drewN {a b : World} (h : Grw a b) (n : Nat) : Grw a (b.drewN n) := by
  obtain ⟨q, os, rfl⟩ := h
  exact ⟨q + n, os, by simp [World.drewN, Go.Sort.grow, Nat.add_assoc]⟩
theorem Grw.drew {a b : World} (h : Grw a b) : Grw a b.drew := h.drewN 1
theorem Grw.alloc {a b : World} (h : Grw a b) (o : Obj) : Grw a (b.alloc o) := by
  obtain ⟨q, os, rfl⟩ := h
  exact ⟨q, os ++ #[o], by rw [Go.Sort.alloc_eq_grow, Go.Sort.grow_grow]⟩
theorem Grw.trans {a b c : World} (h : Grw a b) (k : Grw b c) : Grw a c := by
  obtain ⟨q, os, rfl⟩ := k
  obtain ⟨p, ps, e⟩ := h.drewN q
  exact ⟨p, ps ++ os, by rw [e, Go.Sort.grow_grow]⟩
theorem Grw.below {a b : World} (h : Grw a b) : Below a.heap.size a b := by
  obtain ⟨q, os, rfl⟩ := h
  exact ⟨rfl, rfl, rfl, by rw [Go.Sort.size_grow]; exact Nat.le_add_right _ _, fun k hk => Go.Sort.heap_grow_old _ os hk⟩
theorem grown_refl (w : World) (row : Option Nat) : w.grownBy w row := World.grownBy.refl w row
theorem grown_setCell (w : World) (g i : Nat) (v : Value) : w.grownBy (w.setCell ⟨g, i, none⟩ v) (some g) :=
  ⟨rfl, rfl, rfl, by simp, fun k hk hne => Below.heap_setCell w ⟨g, i, none⟩ v k (fun e => hne (by rw [e]))⟩
theorem grown_setCells (g : Nat) : ∀ (vs : List Value) (i : Nat) (w : World), w.grownBy (w.setCells g i vs) (some g)
  | [], _, w => grown_refl w _
  | v :: vs, i, w => (grown_setCell w g i v).trans (grown_setCells g vs (i + 1) _)
theorem Below.only {B g : Nat} {a w w' : World} (h : Below B a w) (hgr : w.grownBy w' (some g)) (hg : B ≤ g) (hB : B ≤ w.heap.size) : Below B a w' :=
  h.grown hgr hB (fun k hk => by injection hk with hk; omega)
/-- A whole row laid over a block. -/
theorem Blk.setAll {g : Nat} {t : TypeId} : ∀ (vs : List Value) (i : Nat) (w : World) (cs : Array Value), Blk w g t cs → ∃ ds, Blk (w.setCells g i vs) g t ds ∧ ds.size = cs.size ∧ ∀ j, j < cs.size → ds[j]? = if i ≤ j ∧ j < i + vs.length then vs[j - i]? else cs[j]?
  | [], i, w, cs, h => ⟨cs, h, rfl, fun j hj => by rw [if_neg (by intro hh; have := hh.2; simp at this; omega)]⟩
  | v :: vs, i, w, cs, h => by
    obtain ⟨ds, h1, h2, h3⟩ := Blk.setAll (t := t) vs (i + 1) (w.setCell ⟨g, i, none⟩ v) _ (h.set_ i v)
    refine ⟨ds, h1, by simpa using h2, fun j hj => ?_⟩
    rw [h3 j (by simpa using hj)]
    by_cases e : j = i
    · subst e
      rw [if_neg (by omega), if_pos (by simp), Array.getElem?_setIfInBounds_self_of_lt hj, Nat.sub_self]; rfl
    · by_cases e2 : i + 1 ≤ j ∧ j < i + 1 + vs.length
      · rw [if_pos e2, if_pos (by simp; omega)]
        have : j - i = (j - (i + 1)) + 1 := by omega
        rw [this, List.getElem?_cons_succ]
      · rw [if_neg e2, if_neg (by simp; omega), Array.getElem?_setIfInBounds_ne (by omega)]
theorem Blk.setRow {w : World} {g : Nat} {t : TypeId} {cs ds : Array Value} (h : Blk w g t cs) (hs : ds.size = cs.size) : Blk (w.setCells g 0 ds.toList) g t ds := by
  obtain ⟨es, h1, h2, h3⟩ := Blk.setAll (t := t) ds.toList 0 w cs h
  have : es = ds := by
    apply Array.ext_getElem?
    intro j
    by_cases hj : j < cs.size
    · rw [h3 j hj, if_pos (by simp; omega)]; simp
    · rw [Array.getElem?_eq_none (by omega), Array.getElem?_eq_none (by omega)]
  rw [← this]; exact this ▸ h1
theorem Blk.there {w : World} {g : Nat} {t : TypeId} {cs : Array Value} (h : Blk w g t cs) : w.there g 0 cs.size := fun j hj => ⟨by rw [Nat.zero_add, h.cell, Array.getElem?_eq_getElem hj]; rfl, h.frozen _⟩
theorem results_row_tmp {P : Program} {fn : Func} {p u : Tmp} {ty : TypeId} (h : fn.results = #[.cell p ty, .tmp u]) (tmps : Array Value) (w : World) (g : Nat) (t : TypeId) (cs : Array Value) (fr : Nat × Nat) (d : TypeDesc)
    (v : Value) (hp : tmps.getD p undef = .pointer (some ⟨g, 0, none⟩)) (hv : tmps.getD u undef = v) (hg : w.heap[g]? = some (.cells cs t fr))
    (hu : P.underlying ty = some d) (hd : (match d with | .struct _ | .array _ _ => true | _ => false) = true) (hi : (P.info? ty).map (·.size) = some cs.size) :
    (results fn tmps).run P w = .ok (.tuple #[.agg cs, v]) w := by
  rw [results_cell_tmp h, hp, hv]
  simp [asAddr, run_loadVar_row w g t ty cs fr d hg hu hd hi]
def uqs (U : List Nat) : Array Value := (U.map uq).toArray
theorem uqs_size (U : List Nat) : (uqs U).size = U.length := by simp [uqs]
theorem uqs_list (U : List Nat) : (uqs U).toList = U.map uq := rfl
theorem uqs_get (U : List Nat) (k : Nat) (h : k < U.length) : (uqs U)[k]? = some (.int .u64 (U.getD k 0 : Int)) := by
  unfold uqs
  rw [List.getElem?_toArray, List.getElem?_map, List.getD_eq_getElem?_getD, List.getElem?_eq_getElem h]; rfl
theorem uqs_set (U : List Nat) (k n : Nat) : (uqs U).setIfInBounds k (.int .u64 (n : Int)) = uqs (U.set k n) := by
  unfold uqs
  rw [List.setIfInBounds_toArray, List.map_set]; rfl
theorem info_vec : (Tryd.prog.info? 25).map (·.size) = some 16 := by kernel_rfl
theorem uqs_info {U : List Nat} (h : U.length = 16) : (Tryd.prog.info? 25).map (·.size) = some (uqs U).size := by rw [info_vec, uqs_size, h]
theorem uqs_one (U : List Nat) : (uqs U).all (·.oneCell') = true := all_oneCell_toArray fun v hv => by
  obtain ⟨n, _, rfl⟩ := List.mem_map.1 hv; rfl
/-- The first i numbers of W, V's behind them. -/
def Mix (W V U : List Nat) (i : Nat) : Prop := U.length = 16 ∧ ∀ k : Nat, k < 16 → U.getD k 0 = if k < i then W.getD k 0 else V.getD k 0
theorem Mix.start {V : List Nat} (hV : V.length = 16) (W : List Nat) : Mix W V V 0 := ⟨hV, fun k _ => by rw [if_neg (by omega)]⟩
theorem Mix.last {W V U : List Nat} (h : Mix W V U 16) (hW : W.length = 16) : U = W := by
  refine List.ext_getElem (by rw [h.1, hW]) fun k h1 h2 => ?_
  have := h.2 k (by rw [h.1] at h1; exact h1)
  rw [if_pos (by rw [h.1] at h1; exact h1)] at this
  simpa [List.getD_eq_getElem?_getD, List.getElem?_eq_getElem h1, List.getElem?_eq_getElem h2] using this
theorem Mix.next {W V U : List Nat} {i : Nat} (h : Mix W V U i) (hi : i < 16) : Mix W V (U.set i (W.getD i 0)) (i + 1) := by
  refine ⟨by rw [List.length_set]; exact h.1, fun k hk => ?_⟩
  rw [List.getD_eq_getElem?_getD, List.getElem?_set]
  by_cases e : i = k
  · subst e
    rw [if_pos rfl, if_pos (by rw [h.1]; exact hi), if_pos (by omega)]; rfl
  · rw [if_neg e, ← List.getD_eq_getElem?_getD, h.2 k hk]
    by_cases hki : k < i
    · rw [if_pos hki, if_pos (by omega)]
    · rw [if_neg hki, if_neg (by omega)]
theorem Mix.get {W V U : List Nat} {i : Nat} (h : Mix W V U i) (hi : i < 16) : U.getD i 0 = at_ V ((i : Int) + 1) := by
  rw [h.2 i hi, if_neg (by omega), at_, show ((i : Int) + 1 - 1).toNat = i by omega]
theorem info_u64 : (Tryd.prog.info? 23).map (fun i => (i.zero, i.size, i.bytes)) = some (some (.int .u64 0), 1, 8) := by kernel_rfl
theorem eqItems_uqs (d : Nat) (a b : List Nat) (h : a.length = b.length) (w : World) : ∀ is : List Nat, (∀ i ∈ is, i < a.length) →
    (Op.eqItems (d + 1) 23 1 (uqs a) (uqs b) is).run Tryd.prog w = .ok (is.all fun i => a.getD i 0 == b.getD i 0) w
  | [], _ => by simp [Op.eqItems]
  | i :: is, hi => by
    have hlt : i < a.length := hi i (by simp)
    have pa : (part 23 (uqs a) (i * 1)).run Tryd.prog w = .ok (.int .u64 (a.getD i 0 : Int)) w := by
      rw [Nat.mul_one]; have hg := uqs_get a i hlt; generalize uqs a = A at hg; simp [part, hg]
    have pb : (part 23 (uqs b) (i * 1)).run Tryd.prog w = .ok (.int .u64 (b.getD i 0 : Int)) w := by
      rw [Nat.mul_one]; have hg := uqs_get b i (by omega); generalize uqs b = B at hg; simp [part, hg]
    have ee : ((a.getD i 0 : Int) == (b.getD i 0 : Int)) = (a.getD i 0 == b.getD i 0) := by
      rw [Bool.eq_iff_iff, beq_iff_eq, beq_iff_eq]
      omega
    have ih := eqItems_uqs d a b h w is (fun j hj => hi j (by simp [hj]))
    simp only [Op.eqItems, Sem.run_bind, pa, pb, Result.andThen_ok, run_equalIn_int w d 23 .u64 .u64 _ _ Tryd.underlying23, List.all_cons, ee]
    cases hx : (a.getD i 0 == b.getD i 0)
    · simp
    · simp [ih]
theorem cells_u64 : Tryd.prog.cellsOf 23 = 1 := by kernel_rfl
theorem all_eqN (a b : List Nat) (n : Nat) (ha : a.length = n) (hb : b.length = n) : ((List.range n).all fun i => a.getD i 0 == b.getD i 0) = decide (a = b) := by
  rw [Bool.eq_iff_iff, List.all_eq_true, decide_eq_true_iff]
  constructor
  · intro h
    apply List.ext_getElem (by omega)
    intro i h1 h2
    have := h i (by simp; omega)
    simpa [List.getD_eq_getElem?_getD, List.getElem?_eq_getElem h1, List.getElem?_eq_getElem h2] using this
  · rintro rfl i _
    simp
/-- Two vectors compared. -/
theorem vec_eq (a b : List Nat) (ha : a.length = 16) (hb : b.length = 16) (w : World) : (Op.equalIn 10000 25 (.agg (uqs a)) (.agg (uqs b))).run Tryd.prog w = .ok (decide (a = b)) w := by
  obtain ⟨i0, hi, _⟩ := info_parts info_u64
  rw [run_equalIn_array w 9999 (uqs a) (uqs b) Tryd.underlying25 hi, cells_u64, eqItems_uqs 9998 a b (by omega) w _ (fun i hi => by simp at hi; omega), all_eqN a b 16 ha hb]
/-- The greater number of each region. -/
def maxV (A B : List Nat) : List Nat := (List.range 16).map fun i => max (A.getD i 0) (B.getD i 0)
theorem maxV_length (A B : List Nat) : (maxV A B).length = 16 := by simp [maxV]
theorem maxV_getD (A B : List Nat) (i : Nat) (h : i < 16) : (maxV A B).getD i 0 = max (A.getD i 0) (B.getD i 0) := by
  rw [List.getD_eq_getElem?_getD, maxV, List.getElem?_map, List.getElem?_range h]; rfl
theorem run_index_uqs (U : List Nat) (hU : U.length = 16) (k : Nat) (hk : k < 16) (w : World) :
    (Instr.index 25 (.agg (uqs U)) (.int .i64 (k : Int))).run Tryd.prog w = .ok (.int .u64 (U.getD k 0 : Int)) w := by
  obtain ⟨i0, hi, hz0, hz1, hz2⟩ := info_parts info_u64
  have hat := uqs_get U k (by omega)
  have hs := uqs_size U
  have hsz : k < (uqs U).size := by omega
  generalize uqs U = A at hat hs hsz
  simp [Instr.index, asIntOf, run_underlying Tryd.underlying25, sizeOf, typeInfo, hi, hz1, hk]
  simp [part, hat]
end Go.Proofs.YthlopecllhdmhaaDoor

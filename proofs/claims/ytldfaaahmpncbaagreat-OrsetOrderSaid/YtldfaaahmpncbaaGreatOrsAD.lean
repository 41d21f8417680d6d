/-
  Rows and slices of elements of several cells, whatever they are; those of items.
-/
import Derived.Test.YtldfaaahmpncbaaGreatOrsAC
import Derived.Test.YtldfaaahmpncbaaGreatOrsAA
import Derived.Shelf.SlMaps.Clone
import Derived.Test.YtldfaaahmpncbaaGreatProg
import Derived.Test.YtldfaaahmpncbaaGreatCtxCopy
namespace Go.Proofs.YtldfaaahmpncbaaGreat
open Go.RowKit
open CtxM
set_option linter.unusedVariables false
set_option linter.unusedSimpArgs false
set_option maxRecDepth 20000

/-- A kind of elements: its type, its cells. -/
structure Kd (α : Type) where
  ty : TypeId
  sz : Nat
  by_ : Nat
  zero : Value
  en : α → List Value
  len : ∀ x, (en x).length = sz
  one : ∀ x u, u ∈ en x → u.oneCell' = true
  pos : 0 < sz
  zs : zero.cells.size = sz
variable {α : Type} {k : Kd α}
def cellsK (k : Kd α) (L : List α) : List Value := (L.map k.en).flatten
theorem cellsK_nil : cellsK k [] = [] := rfl
theorem cellsK_cons (x : α) (L : List α) : cellsK k (x :: L) = k.en x ++ cellsK k L := rfl
theorem cellsK_append (L M : List α) : cellsK k (L ++ M) = cellsK k L ++ cellsK k M := by simp [cellsK]
theorem cellsK_length (L : List α) : (cellsK k L).length = L.length * k.sz := by
  induction L with
  | nil => simp [cellsK]
  | cons x L ih => rw [cellsK_cons, List.length_append, k.len, ih, List.length_cons, Nat.succ_mul]; omega
theorem cellsK_get : ∀ (L : List α) (j i : Nat) (hj : j < L.length), i < k.sz → (cellsK k L)[j * k.sz + i]? = (k.en L[j])[i]?
  | [], j, i, hj, _ => absurd hj (by simp)
  | x :: L, 0, i, _, hi => by
    rw [cellsK_cons, Nat.zero_mul, Nat.zero_add, List.getElem?_append_left (by rw [k.len]; exact hi)]; rfl
  | x :: L, j + 1, i, hj, hi => by
    rw [cellsK_cons, List.getElem?_append_right (by rw [k.len, Nat.succ_mul]; omega), k.len, show (j + 1) * k.sz + i - k.sz = j * k.sz + i by rw [Nat.succ_mul]; omega, cellsK_get L j i (by simpa using hj) hi]; rfl
theorem cellsK_one (L : List α) : ∀ u ∈ cellsK k L, u.oneCell' = true := by
  intro u hu
  obtain ⟨l, hl, hu⟩ := List.mem_flatten.1 hu
  obtain ⟨x, _, rfl⟩ := List.mem_map.1 hl
  exact k.one x u hu
theorem cellsK_take (L : List α) (n : Nat) : (cellsK k L).take (n * k.sz) = cellsK k (L.take n) := by
  have e : cellsK k L = cellsK k (L.take n) ++ cellsK k (L.drop n) := by rw [← cellsK_append, List.take_append_drop]
  rw [e]
  by_cases h : n ≤ L.length
  · exact List.take_left' (by rw [cellsK_length, List.length_take, Nat.min_eq_left h])
  · rw [List.drop_eq_nil_of_le (by omega), cellsK_nil, List.append_nil, List.take_of_length_le]
    rw [cellsK_length, List.length_take]
    exact Nat.mul_le_mul_right _ (by omega)
/-- A slice that reads as these elements. -/
def SlK (k : Kd α) (w : World) (v : Value) (L : List α) : Prop :=
  ∃ A c, v = .slice A L.length c ∧ L.length ≤ c ∧ (0 < L.length → ∃ b o, A = some ⟨b, o, none⟩ ∧ ∀ j u, (cellsK k L)[j]? = some u → w.cell? ⟨b, o + j, none⟩ = some u)
/-- A row of the call's own. -/
def OwnK (k : Kd α) (w : World) (base : Nat) (v : Value) (L : List α) : Prop := w.ownsRow base k.ty k.sz v L.length (cellsK k L)
section
variable {w w' : World} {v : Value} {L : List α} {base : Nat}
theorem SlK.nil (A : Option Addr) (c : Nat) : SlK k w (.slice A 0 c) [] := ⟨A, c, rfl, Nat.zero_le _, fun h => absurd h (by simp)⟩
theorem SlK.keep (h : SlK k w v L) (hk : ∀ p : Addr, ∀ u, w.cell? p = some u → w'.cell? p = some u) : SlK k w' v L := by
  obtain ⟨A, c, rfl, hc, ha⟩ := h
  refine ⟨A, c, rfl, hc, fun hn => ?_⟩
  obtain ⟨b, o, rfl, hx⟩ := ha hn
  exact ⟨b, o, rfl, fun j u hu => hk _ _ (hx j u hu)⟩
theorem SlK.below (h : SlK k w v L) (hb : Below w.heap.size w w') : SlK k w' v L := h.keep fun p u hu => (hb.cell (World.block_lt_of_cell? w p hu)).trans hu
theorem SlK.shape (h : SlK k w v L) : ∃ A c, v = .slice A L.length c := by
  obtain ⟨A, c, rfl, _⟩ := h
  exact ⟨A, c, rfl⟩
theorem SlK.at_ {A : Option Addr} {n c : Nat} (h : SlK k w (.slice A n c) L) (j : Nat) (hj : j < L.length) : ∃ b o, A = some ⟨b, o, none⟩ ∧ ∀ i, i < k.sz → w.cell? ⟨b, o + (j * k.sz + i), none⟩ = (k.en L[j])[i]? := by
  obtain ⟨A', c', e, hc, ha⟩ := h
  injection e with e1 e2 e3
  subst e1
  obtain ⟨b, o, rfl, hx⟩ := ha (by omega)
  refine ⟨b, o, rfl, fun i hi => ?_⟩
  have hg := cellsK_get (k := k) L j i hj hi
  have hlt : i < (k.en L[j]).length := by rw [k.len]; exact hi
  rw [List.getElem?_eq_getElem hlt] at hg ⊢
  exact hx _ _ hg
theorem OwnK.nil : OwnK k w base (.slice none 0 0) [] := World.ownsRow_nil w base _ _
theorem OwnK.alloc (h : OwnK k w base v L) (o : Obj) : OwnK k (w.alloc o) base v L := World.ownsRow.alloc h o
theorem OwnK.lt (h : OwnK k w base v L) : ∀ i, v.ownBlock = some i → base ≤ i ∧ i < w.heap.size := World.ownsRow.lt h
theorem OwnK.keep (h : OwnK k w base v L) (hk : ∀ i, v.ownBlock = some i → w'.heap[i]? = w.heap[i]?) : OwnK k w' base v L := by
  refine ⟨h.1, ?_⟩
  rcases h.2 with h2 | ⟨g, cap, cur, hv, hg, hh, r⟩
  · exact .inl h2
  · exact .inr ⟨g, cap, cur, hv, hg, (hk g (by rw [hv]; rfl)).trans hh, r⟩
theorem OwnK.below (h : OwnK k w base v L) (hb : Below w.heap.size w w') : OwnK k w' base v L := h.keep fun i hi => hb.block i (h.lt i hi).2
theorem OwnK.mono {B : Nat} (h : OwnK k w base v L) (hB : B ≤ base) : OwnK k w B v L := by
  refine ⟨h.1, ?_⟩
  rcases h.2 with h2 | ⟨g, cap, cur, hv, hg, hh, r⟩
  · exact .inl h2
  · exact .inr ⟨g, cap, cur, hv, by omega, hh, r⟩
theorem OwnK.slk (h : OwnK k w base v L) : SlK k w v L := by
  rcases h.2 with ⟨rfl, h0⟩ | ⟨g, cap, cur, rfl, _, hh, hnc, _, hs, ht⟩
  · refine ⟨none, 0, by rw [h0], by omega, fun hn => absurd hn (by omega)⟩
  · refine ⟨some ⟨g, 0, none⟩, cap, rfl, hnc, fun _ => ⟨g, 0, rfl, fun j u hu => ?_⟩⟩
    have := World.ownsRow.cells h (g := g) rfl j u hu
    rw [add_plain] at this
    exact this
theorem OwnK.shape (h : OwnK k w base v L) : ∃ A c, v = .slice A L.length c := h.slk.shape
/-- One element in a block just made. -/
theorem SlK.one (w : World) (x : α) (C : Array Value) (hC : C.toList = k.en x) : SlK k (w.alloc (.cells C k.ty)) (.slice (some ⟨w.heap.size, 0, none⟩) 1 1) [x] := by
  refine ⟨_, 1, rfl, by simp, fun _ => ⟨_, 0, rfl, fun j u hu => ?_⟩⟩
  rw [Nat.zero_add, (Blk.new w _ _).cell, ← Array.getElem?_toList, hC]
  simpa [cellsK] using hu
theorem run_append_k {P : Program} (w : World) (base : Nat) (t ty : TypeId) (i : TypeInfo) (ht : P.underlying t = some (.slice k.ty)) (hi : P.info? k.ty = some i) (hz : i.zero = some k.zero)
    (hsize : i.size = k.sz) (hby : i.bytes = k.by_) (v : Value) (l : List α) (hown : OwnK k w base v l) (v2 : Value) (m : List α) (hm : SlK k w v2 m) (h63 : l.length + m.length ≤ maxLen) (hlen : (l.length + m.length) * k.by_ ≤ 140737488355328) (hbase : base ≤ w.heap.size) :
    ∃ v' w', (Builtin.append_ #[t, t] ty #[v, v2]).run P w = .ok v' w' ∧ OwnK k w' base v' (l ++ m) ∧ w.grownBy w' v.ownBlock ∧ Newer w.heap.size v v' := by
  obtain ⟨A, c, rfl, hc, ha⟩ := hm
  rcases A with _ | ad
  · have h0 : m = [] := by
      rcases Nat.eq_zero_or_pos m.length with h0 | h0
      · exact List.eq_nil_of_length_eq_zero h0
      · obtain ⟨b, o, h, _⟩ := ha h0
        cases h
    subst h0
    exact ⟨v, w, run_append_nil_of w base t ty _ i _ ht hi hsize v _ _ hown c, by rw [List.append_nil]; exact hown, ⟨rfl, rfl, rfl, Nat.le_refl _, fun _ _ _ => rfl⟩, fun i hi => .inl hi⟩
  · have hcells : ∀ j u, (cellsK k m)[j]? = some u → w.cell? (ad.add j) = some u := by
      intro j u hu
      have hj : 0 < m.length := by
        have := (List.getElem?_eq_some_iff.1 hu).1
        rw [cellsK_length] at this
        rcases Nat.eq_zero_or_pos m.length with h0 | h0
        · rw [h0, Nat.zero_mul] at this; omega
        · exact h0
      obtain ⟨b, o, h, hx⟩ := ha hj
      injection h with h
      subst h
      rw [add_plain]
      exact hx j u hu
    obtain ⟨v', w', hrun, h2, h3, h4, h5⟩ := run_append_own_at (P := P) w base t ty _ i _ k.sz k.by_ ht hi hz hsize hby k.zs k.pos v l.length (cellsK k l) hown ad m.length c (cellsK k m) (cellsK_length m) hcells (cellsK_one m) h63 hlen hbase
    refine ⟨v', w', hrun, by unfold OwnK; rw [List.length_append, cellsK_append]; exact h2, h3, fun i hi => ?_⟩
    rcases h5 with h5 | h5
    · exact .inl (h5 ▸ hi)
    · rw [h5] at hi
      injection hi with hi
      exact .inr (by omega)
theorem wpList_append_k {P : Program} {ops : Array Oper} {rest : List Oper} {o : Oper} {a : Act} {Q : Exit → Act → World → Prop} (hgd : o.guard = none) (s x : Operand) (t : TypeId)
    (ho : o.op = .call { callee := .builtin .append, args := #[s, x], argTypes := #[t, t] })
    (base : Nat) (i : TypeInfo) (ht : P.underlying t = some (.slice k.ty)) (hi : P.info? k.ty = some i) (hz : i.zero = some k.zero) (hsize : i.size = k.sz) (hby : i.bytes = k.by_) (v : Value) (l : List α) (hs : a.eval s = v) (hown : OwnK k w base v l)
    (v2 : Value) (m : List α) (hx : a.eval x = v2) (hm : SlK k w v2 m) (h63 : l.length + m.length ≤ maxLen) (hlen : (l.length + m.length) * k.by_ ≤ 140737488355328) (hbase : base ≤ w.heap.size)
    (h : ∀ v' w', OwnK k w' base v' (l ++ m) → w.grownBy w' v.ownBlock → Newer w.heap.size v v' → wpList P ops Q rest (a.put o.dst v') w') : wpList P ops Q (o :: rest) a w := by
  refine wpList_plain hgd fun K hK => ?_
  obtain ⟨v', w', hr, h2, h3, h5⟩ := run_append_k (P := P) w base t o.type i ht hi hz hsize hby v l hown v2 m hm h63 hlen hbase
  unfold Oper.wp execOp
  simp only [ho, resolve, invoke, builtin, Sem.run_bind, Sem.run_pure, Result.andThen_ok, List.map_toArray, List.map_cons, List.map_nil, hs, hx, hr]
  exact hK _ _ (h v' w' h2 h3 h5)
end
/-- Items. -/
def kIt : Kd It where
  ty := 48
  sz := 5
  by_ := 56
  zero := .agg #[.int .i64 0, .int .u64 0, .string ⟨#[]⟩, .string ⟨#[]⟩, .bool false]
  en i := (itc i).toList
  len _ := rfl
  one i u hu := by
    simp [itc] at hu
    rcases hu with rfl | rfl | rfl | rfl | rfl <;> rfl
  pos := by decide
  zs := rfl
theorem info_item : (Tryz.prog.info? 48).map (fun i => (i.zero, i.size, i.bytes)) = some (some (.agg #[.int .i64 0, .int .u64 0, .string ⟨#[]⟩, .string ⟨#[]⟩, .bool false]), 5, 56) := by kernel_rfl
end Go.Proofs.YtldfaaahmpncbaaGreat

namespace Go.Proofs.YtldfaaahmpncbaaGreat
open Go.RowKit Go.Maps
open CtxM
set_option linter.unusedVariables false
set_option linter.unusedSimpArgs false
set_option maxRecDepth 20000

section
variable {w w' : World} {p g : Nat} {v : Value} {V : List Nat} {X : List Dt} {b1 b2 : Nat} {K : Kl} {T : Tl}
theorem Ma.valL (h : Ma w b1 b2 K T) {d : Dt} (hd : OkD d) : (Instr.lookup 81 (.map (some b1)) (dval d) false).run Tryz.prog w = .ok (keyV (keyAt K d)) w := by
  obtain ⟨v, ps, hrun, hv⟩ := h.live.lookup dotK Tryz.underlying81 (zeroKey w) (keyR_mk _) (keyOf_dot hd)
  obtain ⟨k, rfl, e⟩ := keyR_inv hv
  injection e with e _
  have : k = keyAt K d := by
    by_cases hm : d ∈ K.map Prod.fst
    · rw [atKey_MD h.okl (keyAt_mem hm)] at e
      exact (keyD_inj e).symm
    · rw [atKey_MD_none h.okl hd hm] at e
      rw [keyAt_none hm]
      exact (keyD_inj e).symm
  rw [hrun, this]
theorem lt_ne_ {a b : Dt} (h : Lt a b) : a ≠ b := fun e => Lt.irrefl b (by rw [e] at h; exact h)
theorem List.Subset.length_le_of_nodup_ {α : Type} : ∀ {A B : List α}, A.Nodup → (∀ x ∈ A, x ∈ B) → A.length ≤ B.length
  | [], _, _, _ => Nat.zero_le _
  | a :: A, B, hn, hs => by
    obtain ⟨s, t, rfl⟩ := List.append_of_mem (hs a (by simp))
    have hn' := List.nodup_cons.1 hn
    have := length_le_of_nodup_ (A := A) (B := s ++ t) hn'.2 (fun x hx => by
      have h1 := hs x (by simp [hx])
      rcases List.mem_append.1 h1 with h | h
      · exact List.mem_append.2 (.inl h)
      · rcases List.mem_cons.1 h with rfl | h
        · exact absurd hx hn'.1
        · exact List.mem_append.2 (.inr h))
    simp at this ⊢
    omega
/-- Is the dot live with the key? -/
def isK (K : Kl) (k : Ky) (d : Dt) : Bool := decide (keyAt K d = k)
set_option maxHeartbeats 1000000 in
theorem ends1_any (h : Os w p g v V X b1 b2 K T) (gs gk : Nat) (t u : ByteArray) (hs : Blk w gs 25 #[.pointer (some ⟨p, 0, none⟩)]) (hk : Blk w gk 39 #[.string t, .string u]) (d : Dt) (hd : OkD d) :
    Calls Tryz.prog 114 #[dval d, .pointer (some ⟨gs, 0, none⟩), .pointer (some ⟨gk, 0, none⟩)] w fun e w' => e = .returned (.bool (isK K (t, u) d)) ∧ Below w.heap.size w w' := by
  have hb1 : Below w.heap.size w (w.alloc (.cells #[.int .i64 d.1, .int .u64 (d.2 : Int)] 41)) := (Below.refl _ _).alloc (Nat.le_refl _) _
  have hbl := Blk.new w 41 #[.int .i64 d.1, .int .u64 (d.2 : Int)]
  have h1 := h.below hb1
  have hs1 := hs.below hb1 hs.lt
  have hk1 := hk.below hb1 hk.lt
  obtain ⟨⟨kt, ku⟩, hkk⟩ : ∃ k, keyAt K d = k := ⟨_, rfl⟩
  have hfo : Tryz.prog.follows .mixedOrders = true := by kernel_rfl
  have HR := Lib.hid (show isK K (t, u) d = decide (kt = t ∧ ku = u) by
    unfold isK
    rw [hkk, Bool.eq_iff_iff, decide_eq_true_iff, decide_eq_true_iff, Prod.mk.injEq])
  have hke := key_eq kt ku t u
  obtain ⟨bb, hbb⟩ : ∃ x, x = decide (kt = t ∧ ku = u) := ⟨_, rfl⟩
  rw [← hbb] at hke HR
  rw [HR.out]
  clear hbb HR
  show Calls Tryz.prog 114 #[.agg #[.int .i64 d.1, .int .u64 (d.2 : Int)], .pointer (some ⟨gs, 0, none⟩), .pointer (some ⟨gk, 0, none⟩)] w _
  go_enter Tryz.func114, Tryz.ntmps114
  go_upto_region 1 with fail
  change Code.wp _ _ _ _ (w.alloc (.cells #[.int .i64 d.1, .int .u64 (d.2 : Int)] 41))
  generalize w.alloc (.cells #[.int .i64 d.1, .int .u64 (d.2 : Int)] 41) = w1 at hb1 hbl h1 hs1 hk1 ⊢
  have q0 : w1.cell? ⟨gs, 0, none⟩ = some (.pointer (some ⟨p, 0, none⟩)) := by rw [hs1.cell]; rfl
  have q1 := h1.c1
  have q2 : w1.cell? ⟨w.heap.size, 0, none⟩ = some (.int .i64 d.1) := by rw [hbl.cell]; rfl
  have q3 : w1.cell? ⟨w.heap.size, 1, none⟩ = some (.int .u64 (d.2 : Int)) := by rw [hbl.cell]; rfl
  have q4 : w1.cell? ⟨gk, 0, none⟩ = some (.string t) := by rw [hk1.cell]; rfl
  have q5 : w1.cell? ⟨gk, 1, none⟩ = some (.string u) := by rw [hk1.cell]; rfl
  have hlook : ∀ n, (Instr.lookup 81 (.map (some b1)) (.agg #[.int .i64 d.1, .int .u64 (d.2 : Int)]) false).run Tryz.prog (w1.drewN n) = .ok (.agg #[.string kt, .string ku]) (w1.drewN n) := fun n => by
    have := (h1.ma.below (below_drewN (Below.refl _ _) n)).valL hd
    rw [hkk] at this
    exact this
  clear hbl h1 hs1 hk1 h hs hk
  go_quiet (fail)
  go_wp2
  go_ret
  exact ⟨rfl, below_drewN hb1 _⟩
def goneI (d : Dt) : It := ⟨d, ⟨#[]⟩, ⟨#[]⟩, true⟩
theorem enter_ends1 : ∀ args w, (callFunc 114 args).run Tryz.prog w = .ok (.enter 114 args) w := enters_of Tryz.func114 (by kernel_rfl) rfl
set_option maxHeartbeats 2000000 in
theorem ends_any (h : Os w p g v V X b1 b2 K T) (t u : ByteArray) (hN : K.length ≤ 100000) :
    Calls Tryz.prog 87 #[.pointer (some ⟨p, 0, none⟩), .agg #[.string t, .string u]] w fun e w' => ∃ vi M, e = .returned vi ∧ Pick K (isK K (t, u)) M ∧ OwnK kIt w' w.heap.size vi (M.map goneI) ∧ Below w.heap.size w w' := by
  obtain ⟨i0, hi, hz0, hz1, hz2⟩ := info_parts info_item
  have hmf : ∀ (fn : Fn) (first cap : Array Value) (w : World), (Instr.makeFunc fn first cap).run Tryz.prog w = .ok (.func fn first cap) w := fun _ _ _ _ => rfl
  have hb1 : Below w.heap.size w ((w.alloc (.cells #[.pointer (some ⟨p, 0, none⟩)] 25)).alloc (.cells #[.string t, .string u] 39)) := ((Below.refl _ _).alloc (Nat.le_refl _) _).alloc (by simp) _
  have hbs := (Blk.new w 25 #[.pointer (some ⟨p, 0, none⟩)]).alloc (.cells #[.string t, .string u] 39)
  have hbk := Blk.new (w.alloc (.cells #[.pointer (some ⟨p, 0, none⟩)] 25)) 39 #[.string t, .string u]
  rw [show (w.alloc (.cells #[.pointer (some ⟨p, 0, none⟩)] 25)).heap.size = w.heap.size + 1 by simp] at hbk
  have h1 := h.below hb1
  go_enter Tryz.func87, Tryz.ntmps87
  go_upto_region 2 with fail
  change Code.wp _ _ _ _ ((w.alloc (.cells #[.pointer (some ⟨p, 0, none⟩)] 25)).alloc (.cells #[.string t, .string u] 39))
  generalize (w.alloc (.cells #[.pointer (some ⟨p, 0, none⟩)] 25)).alloc (.cells #[.string t, .string u] 39) = w1 at hb1 hbs hbk h1 ⊢
  have q0 : w1.cell? ⟨w.heap.size, 0, none⟩ = some (.pointer (some ⟨p, 0, none⟩)) := by rw [hbs.cell]; rfl
  have q1 := h1.c1
  have HPK := Lib.hid (pickK_any (gi := 114) (lbi := #[.pointer (some ⟨w.heap.size, 0, none⟩), .pointer (some ⟨w.heap.size + 1, 0, none⟩)]) (p := isK K (t, u)) (C := fun X => Below w1.heap.size w1 X) enter_ends1 b1 K.length h1.ma.okl hN w1 h1.ma.live (Below.refl _ _) (fun _ => Iff.rfl)
    (fun d hd X hX => by
      obtain ⟨q, hq, rfl⟩ := List.mem_map.1 hd
      exact ends1_any (h1.below hX) w.heap.size (w.heap.size + 1) t u (hbs.below hX hbs.lt) (hbk.below hX hbk.lt) q.1 (h1.ma.okl.2 q hq)))
  have hz := hb1.size
  clear h hbs hbk h1
  go_wp2_with fail
  refine HPK.out.mono ?_
  rintro e w3 ⟨v3, M, rfl, hP, ho3, hb3⟩
  clear HPK q0 q1
  have hbw3 := hb1.trans (hb3.mono hz)
  have hsd := ho3.sd
  obtain ⟨A3, n3, c3, rfl⟩ := ho3.shape
  obtain rfl := hsd.len
  have HP := Lib.hid hP
  have hMl : M.length ≤ 100000 := by
    have : M.length ≤ (K.map Prod.fst).length := by
      have hnd : M.Nodup := hP.rise.imp fun hab => lt_ne_ hab
      exact List.Subset.length_le_of_nodup_ hnd fun d hd => ((hP.mem d).1 hd).1
    rw [List.length_map] at this
    omega
  clear hP ho3 hb3
  go_wp2_with fail
  go_loopw [5, 15] (fun z5 z wr => ∃ k : Nat, z = .int .i64 (k : Int) ∧ k ≤ M.length ∧ OwnK kIt wr w3.heap.size z5 ((M.take k).map goneI) ∧ Below w3.heap.size w3 wr) (fun _ z _ => M.length - (intOf z).toNat)
  case atStart => exact ⟨0, rfl, Nat.zero_le _, OwnK.nil, Below.refl _ _⟩
  case round =>
    obtain ⟨k, rfl, hk, ho, hb⟩ := hrel
    have HO := Lib.hid ho
    by_cases hlt : k < M.length
    · have hlti : (k : Int) < (M.length : Int) := by omega
      obtain ⟨d, hd⟩ : ∃ d, M[k] = d := ⟨_, rfl⟩
      obtain ⟨b, o, e0, k0, k1⟩ := (hsd.below hb).at_ k hlt d hd
      subst e0
      obtain ⟨A5, c5, rfl⟩ := ho.shape
      have hoa := (ho.alloc (.cells #[.int .i64 d.1, .int .u64 (d.2 : Int)] 41)).alloc (.cells #[.int .i64 d.1, .int .u64 (d.2 : Int), .string ⟨#[]⟩, .string ⟨#[]⟩, .bool true] 48)
      have hone := SlK.one (k := kIt) (wr.alloc (.cells #[.int .i64 d.1, .int .u64 (d.2 : Int)] 41)) (goneI d) #[.int .i64 d.1, .int .u64 (d.2 : Int), .string ⟨#[]⟩, .string ⟨#[]⟩, .bool true] rfl
      rw [show (wr.alloc (.cells #[.int .i64 d.1, .int .u64 (d.2 : Int)] 41)).heap.size = wr.heap.size + 1 by simp] at hone
      have hll : ((M.take k).map goneI).length = k := by rw [List.length_map, List.length_take]; omega
      have hl6 : ((M.take k).map goneI).length + [goneI d].length ≤ maxLen := by rw [hll]; simp [maxLen]; omega
      have hl7 : (((M.take k).map goneI).length + [goneI d].length) * kIt.by_ ≤ 140737488355328 := by rw [hll]; simp [kIt]; omega
      have hbs : w3.heap.size ≤ ((wr.alloc (.cells #[.int .i64 d.1, .int .u64 (d.2 : Int)] 41)).alloc (.cells #[.int .i64 d.1, .int .u64 (d.2 : Int), .string ⟨#[]⟩, .string ⟨#[]⟩, .bool true] 48)).heap.size := by have := hb.size; simp; omega
      have HB2 := Lib.hid (show Below w3.heap.size w3 ((wr.alloc (.cells #[.int .i64 d.1, .int .u64 (d.2 : Int)] 41)).alloc (.cells #[.int .i64 d.1, .int .u64 (d.2 : Int), .string ⟨#[]⟩, .string ⟨#[]⟩, .bool true] 48)) from (hb.alloc hb.size _).alloc (by have := hb.size; simp; omega) _)
      have HX := Lib.hid hd
      have HLT := Lib.hid hlt
      have HOA := Lib.hid hoa
      have HONE := Lib.hid hone
      clear hd ho hoa hone
      go_wp2_with (at_builtin; refine wpList_append_k (k := kIt) rfl _ _ 33 rfl w3.heap.size i0 Tryz.underlying33 hi hz0 hz1 hz2 _ ((M.take k).map goneI) rfl HOA.out _ [goneI d] rfl HONE.out hl6 hl7 hbs ?_)
      intro v' w5 ho5 hg5 _
      have hlt5 : ∀ i, (Value.slice A5 k c5).ownBlock = some i → w3.heap.size ≤ i := fun i e => (HOA.out.lt i (by rw [hll]; exact e)).1
      have HB5 := Lib.hid (HB2.out.grown hg5 HB2.out.size (fun i e => hlt5 i e))
      have HO5 := Lib.hid (show OwnK kIt w5 w3.heap.size v' ((M.take (k + 1)).map goneI) by
        rw [List.take_succ_eq_append_getElem HLT.out, List.map_append, HX.out, List.map_take]; exact ho5)
      clear ho5 hg5
      go_wp2
      exact ⟨⟨k + 1, by go_num, HLT.out, HO5.out, HB5.out⟩, by have := HLT.out; simp [intOf]; omega⟩
    · obtain rfl : k = M.length := by omega
      have hlti : ¬ ((M.length : Int) < (M.length : Int)) := by omega
      have HBB := Lib.hid (hbw3.trans (hb.mono hbw3.size))
      clear ho hb
      go_wp2
      go_ret
      have h5 := HO.out
      rw [List.take_length] at h5
      exact ⟨_, rfl, M, HP.out, h5.mono hbw3.size, HBB.out⟩
end
end Go.Proofs.YtldfaaahmpncbaaGreat

namespace Go.Proofs
open Go.Shelf
def Tryz.cloneK_ren : Go.Shelf.Ren := ⟨fun | 5 => 50 | 7 => 89 | n => n, fun | 4 => 4 | 20 => 20 | 23 => 81 | 25 => 41 | 3 => 39 | n => n, fun | n => n⟩
theorem Tryz.cloneK : Go.Proofs.SlLaysW.n5 Tryz.prog Tryz.cloneK_ren := {
  mixed := by kernel_rfl
  f5 := ⟨Tryz.f50.name, by decide, Tryz.func50.trans (congrArg some (by kernel_rfl))⟩
  f7 := Tryz.func89.trans (congrArg some (by kernel_rfl))
  t4 := Tryz.underlying4
  a4 := Tryz.isAgg4
  z4 := Tryz.sizeOf4
  v4 := Tryz.zeroValue4
  t20 := Tryz.underlying20
  a20 := Tryz.isAgg20
  z20 := Tryz.sizeOf20
  v20 := Tryz.zeroValue20
  t23 := Tryz.underlying81
  a23 := Tryz.isAgg81
  z23 := Tryz.sizeOf81
  v23 := Tryz.zeroValue81 }
def Tryz.cloneU_ren : Go.Shelf.Ren := ⟨fun | 5 => 51 | 7 => 89 | n => n, fun | 4 => 4 | 20 => 20 | 23 => 82 | 25 => 41 | 3 => 93 | n => n, fun | n => n⟩
theorem Tryz.cloneU : Go.Proofs.SlLaysW.n5 Tryz.prog Tryz.cloneU_ren := {
  mixed := by kernel_rfl
  f5 := ⟨Tryz.f51.name, by decide, Tryz.func51.trans (congrArg some (by kernel_rfl))⟩
  f7 := Tryz.func89.trans (congrArg some (by kernel_rfl))
  t4 := Tryz.underlying4
  a4 := Tryz.isAgg4
  z4 := Tryz.sizeOf4
  v4 := Tryz.zeroValue4
  t20 := Tryz.underlying20
  a20 := Tryz.isAgg20
  z20 := Tryz.sizeOf20
  v20 := Tryz.zeroValue20
  t23 := Tryz.underlying82
  a23 := Tryz.isAgg82
  z23 := Tryz.sizeOf82
  v23 := Tryz.zeroValue82 }
end Go.Proofs

namespace Go.Proofs.YtldfaaahmpncbaaGreat
open Go.RowKit Go.Maps
open CtxM
set_option linter.unusedVariables false
set_option linter.unusedSimpArgs false
set_option maxRecDepth 20000

theorem cloneK_any (n b : Nat) (K : Kl) (w : World) (hown : w.ownsMap Tryz.prog 41 keyR b n (MD keyD K)) : Calls Tryz.prog 50 #[.map (some b)] w fun e w' => e = .returned (.map (some w.heap.size)) ∧ w'.ownsMap Tryz.prog 41 keyR w.heap.size n (MD keyD K) ∧ w'.ownsMap Tryz.prog 41 keyR b n (MD keyD K) ∧ Below w.heap.size w w' :=
  AnyW.maps_Clone_owns Tryz.cloneK 41 keyR b n (MD keyD K) w hown
theorem cloneU_any (n b : Nat) (T : Tl) (w : World) (hown : w.ownsMap Tryz.prog 41 unitElem b n (MD unD T)) : Calls Tryz.prog 51 #[.map (some b)] w fun e w' => e = .returned (.map (some w.heap.size)) ∧ w'.ownsMap Tryz.prog 41 unitElem w.heap.size n (MD unD T) ∧ w'.ownsMap Tryz.prog 41 unitElem b n (MD unD T) ∧ Below w.heap.size w w' :=
  AnyW.maps_Clone_owns Tryz.cloneU 41 unitElem b n (MD unD T) w hown
section
variable {w w' : World} {p g : Nat} {v : Value} {V : List Nat} {X : List Dt} {b1 b2 : Nat} {K : Kl} {T : Tl}
/-- A set at s, all of whose blocks lie at or behind B. -/
def OsL (w : World) (B : Nat) (s : Value) (V : List Nat) (X : List Dt) (K : Kl) (T : Tl) : Prop :=
  ∃ p g v b1 b2, s = .pointer (some ⟨p, 0, none⟩) ∧ Os w p g v V X b1 b2 K T ∧ B ≤ p ∧ B ≤ b1 ∧ B ≤ b2 ∧ ∀ i, Foot g v i → B ≤ i
theorem OsL.below {B : Nat} {s : Value} (h : OsL w B s V X K T) (hb : Below w.heap.size w w') : OsL w' B s V X K T := by
  obtain ⟨p, g, v, b1, b2, rfl, ho, r⟩ := h
  exact ⟨p, g, v, b1, b2, rfl, ho.below hb, r⟩
set_option maxHeartbeats 4000000 in
theorem ocopy_any (h : Os w p g v V X b1 b2 K T) (hX : X.length ≤ 100000) : Calls Tryz.prog 13 #[.pointer (some ⟨p, 0, none⟩)] w fun e w' => ∃ s, e = .returned s ∧ OsL w' w.heap.size s V X K T ∧ Below w.heap.size w w' := by
  have hfo : Tryz.prog.follows .mixedOrders = true := by kernel_rfl
  go_enter Tryz.func13, Tryz.ntmps13
  go_wp2_with fail
  refine (onone_any h).mono ?_
  rintro e wx ⟨rfl, hwx⟩
  obtain rfl := hwx.symm
  go_upto_region 3 with fail
  refine wp_region_held_drew (S := fun Y => Below w.drew.heap.size w.drew Y) hfo (Below.refl _ _) (fun hS0 => ?_)
  have H0 := h.below (show Below w.heap.size w w.drew from (Below.refl _ _).drew)
  have hbz : Below w.heap.size w w.drew := (Below.refl _ _).drew
  have hz0 : w.drew.heap.size = w.heap.size := rfl
  generalize w.drew = Z0 at hS0 H0 hbz hz0 ⊢
  have c0 : ∀ Y, Below Z0.heap.size Z0 Y → Y.cell? ⟨p, 0, none⟩ = some (.pointer (some ⟨g, 0, none⟩)) := fun Y hY => (H0.below hY).c0
  have c1 : ∀ Y, Below Z0.heap.size Z0 Y → Y.cell? ⟨p, 1, none⟩ = some (.map (some b1)) := fun Y hY => (H0.below hY).c1
  have c2 : ∀ Y, Below Z0.heap.size Z0 Y → Y.cell? ⟨p, 2, none⟩ = some (.map (some b2)) := fun Y hY => (H0.below hY).c2
  refine' wpAnyH_take (i := 0) (oi := ⟨some 5, _, _, _, _, _⟩) (v := _) rfl (by kernel_rfl) (by kernel_rfl) (by kernel_rfl) (fun _ _ _ h => h) (Or.inl ⟨by rfl, ?y0c⟩) hS0 ?r0c
  case y0c => (intro w' hSw; have k0 := c0 w' hSw; have k1 := c1 w' hSw; have k2 := c2 w' hSw; go_simp; try rfl)
  try simp only [Act.put, List.setIfInBounds_toArray, List.set_cons_zero, List.set_cons_succ]
  refine' wpAnyH_take (i := 1) (oi := ⟨some 6, _, _, _, _, _⟩) (v := _) rfl (by kernel_rfl) (by kernel_rfl) (by kernel_rfl) (fun _ _ _ h => h) (Or.inl ⟨by rfl, ?y1c⟩) hS0 ?r1c
  case y1c => (intro w' hSw; have k0 := c0 w' hSw; have k1 := c1 w' hSw; have k2 := c2 w' hSw; go_simp; try rfl)
  try simp only [Act.put, List.setIfInBounds_toArray, List.set_cons_zero, List.set_cons_succ]
  refine' wpAnyH_take (i := 2) (oi := ⟨some 7, _, _, _, _, _⟩) (v := _) rfl (by kernel_rfl) (by kernel_rfl) (by kernel_rfl) (fun _ _ _ h => h) (Or.inl ⟨by rfl, ?y2c⟩) hS0 ?r2c
  case y2c => (intro w' hSw; have k0 := c0 w' hSw; have k1 := c1 w' hSw; have k2 := c2 w' hSw; go_simp; try rfl)
  try simp only [Act.put, List.setIfInBounds_toArray, List.set_cons_zero, List.set_cons_succ]
  refine' wpAnyH_take (i := 3) (oi := ⟨some 8, _, _, _, _, _⟩) (v := _) rfl (by kernel_rfl) (by kernel_rfl) (by kernel_rfl) (fun _ _ _ h => h) (Or.inl ⟨by rfl, ?y3c⟩) hS0 ?r3c
  case y3c => (intro w' hSw; have k0 := c0 w' hSw; have k1 := c1 w' hSw; have k2 := c2 w' hSw; go_simp; try rfl)
  try simp only [Act.put, List.setIfInBounds_toArray, List.set_cons_zero, List.set_cons_succ]
  refine' wpAnyH_take (i := 5) (oi := ⟨some 10, _, _, _, _, _⟩) (v := _) rfl (by kernel_rfl) (by kernel_rfl) (by kernel_rfl) (fun _ _ _ h => h) (Or.inl ⟨by rfl, ?y5c⟩) hS0 ?r5c
  case y5c => (intro w' hSw; have k0 := c0 w' hSw; have k1 := c1 w' hSw; have k2 := c2 w' hSw; go_simp; try rfl)
  try simp only [Act.put, List.setIfInBounds_toArray, List.set_cons_zero, List.set_cons_succ]
  refine' wpAnyH_take (i := 6) (oi := ⟨some 11, _, _, _, _, _⟩) (v := _) rfl (by kernel_rfl) (by kernel_rfl) (by kernel_rfl) (fun _ _ _ h => h) (Or.inl ⟨by rfl, ?y6c⟩) hS0 ?r6c
  case y6c => (intro w' hSw; have k0 := c0 w' hSw; have k1 := c1 w' hSw; have k2 := c2 w' hSw; go_simp; try rfl)
  try simp only [Act.put, List.setIfInBounds_toArray, List.set_cons_zero, List.set_cons_succ]
  refine' wpAnyH_take (i := 7) (oi := ⟨some 12, _, _, _, _, _⟩) (v := _) rfl (by kernel_rfl) (by kernel_rfl) (by kernel_rfl) (fun _ _ _ h => h) (Or.inl ⟨by rfl, ?y7c⟩) hS0 ?r7c
  case y7c => (intro w' hSw; have k0 := c0 w' hSw; have k1 := c1 w' hSw; have k2 := c2 w' hSw; go_simp; try rfl)
  try simp only [Act.put, List.setIfInBounds_toArray, List.set_cons_zero, List.set_cons_succ]
  refine' wpAnyH_take (i := 8) (oi := ⟨some 13, _, _, _, _, _⟩) (v := _) rfl (by kernel_rfl) (by kernel_rfl) (by kernel_rfl) (fun _ _ _ h => h) (Or.inl ⟨by rfl, ?y8c⟩) hS0 ?r8c
  case y8c => (intro w' hSw; have k0 := c0 w' hSw; have k1 := c1 w' hSw; have k2 := c2 w' hSw; go_simp; try rfl)
  try simp only [Act.put, List.setIfInBounds_toArray, List.set_cons_zero, List.set_cons_succ]
  refine' wpAnyH_take (i := 10) (oi := ⟨some 15, _, _, _, _, _⟩) (v := _) rfl (by kernel_rfl) (by kernel_rfl) (by kernel_rfl) (fun _ _ _ h => h) (Or.inl ⟨by rfl, ?y10c⟩) hS0 ?r10c
  case y10c => (intro w' hSw; have k0 := c0 w' hSw; have k1 := c1 w' hSw; have k2 := c2 w' hSw; go_simp; try rfl)
  try simp only [Act.put, List.setIfInBounds_toArray, List.set_cons_zero, List.set_cons_succ]
  refine' wpAnyH_take (i := 11) (oi := ⟨some 16, _, _, _, _, _⟩) (v := _) rfl (by kernel_rfl) (by kernel_rfl) (by kernel_rfl) (fun _ _ _ h => h) (Or.inl ⟨by rfl, ?y11c⟩) hS0 ?r11c
  case y11c => (intro w' hSw; have k0 := c0 w' hSw; have k1 := c1 w' hSw; have k2 := c2 w' hSw; go_simp; try rfl)
  try simp only [Act.put, List.setIfInBounds_toArray, List.set_cons_zero, List.set_cons_succ]
  refine' wpAnyH_take (i := 12) (oi := ⟨some 17, _, _, _, _, _⟩) (v := _) rfl (by kernel_rfl) (by kernel_rfl) (by kernel_rfl) (fun _ _ _ h => h) (Or.inl ⟨by rfl, ?y12c⟩) hS0 ?r12c
  case y12c => (intro w' hSw; have k0 := c0 w' hSw; have k1 := c1 w' hSw; have k2 := c2 w' hSw; go_simp; try rfl)
  try simp only [Act.put, List.setIfInBounds_toArray, List.set_cons_zero, List.set_cons_succ]
  refine' wpAnyH_take (i := 13) (oi := ⟨some 18, _, _, _, _, _⟩) (v := _) rfl (by kernel_rfl) (by kernel_rfl) (by kernel_rfl) (fun _ _ _ h => h) (Or.inl ⟨by rfl, ?y13c⟩) hS0 ?r13c
  case y13c => (intro w' hSw; have k0 := c0 w' hSw; have k1 := c1 w' hSw; have k2 := c2 w' hSw; go_simp; try rfl)
  try simp only [Act.put, List.setIfInBounds_toArray, List.set_cons_zero, List.set_cons_succ]
  refine held_one (i := 4) (by kernel_rfl) rfl (fun Kc hK => ?_)
  go_simp
  refine (copy_any g v V X Z0 H0.cx hX).mono ?_
  rintro e Z1 ⟨g', v', rfl, hc1, hf1, hb1⟩
  have hS1 := hS0.trans (hb1.mono hS0.size)
  have H1 := H0.below hb1
  refine hK.out _ _ hS1 (fun _ => ?_)
  clear hK Kc
  try simp only [Act.put, List.setIfInBounds_toArray, List.set_cons_zero, List.set_cons_succ]
  refine held_one (i := 9) (by kernel_rfl) rfl (fun Kc hK => ?_)
  go_simp
  refine (cloneK_any K.length b1 K Z1 H1.ma.live).mono ?_
  rintro e Z2 ⟨rfl, hm2, _, hb2⟩
  have hS2 := hS1.trans (hb2.mono hS1.size)
  have H2 := H1.below hb2
  have hc2 := hc1.below hb2
  refine hK.out _ _ hS2 (fun _ => ?_)
  clear hK Kc
  try simp only [Act.put, List.setIfInBounds_toArray, List.set_cons_zero, List.set_cons_succ]
  refine held_one (i := 14) (by kernel_rfl) rfl (fun Kc hK => ?_)
  go_simp
  refine (cloneU_any T.length b2 T Z2 H2.ma.tomb).mono ?_
  rintro e Z3 ⟨rfl, hm3, _, hb3⟩
  have hS3 := hS2.trans (hb3.mono hS2.size)
  have hc3 := hc2.below hb3
  have hm2' := ownsMap_below hm2 hb3
  refine hK.out _ _ hS3 (fun _ => ?_)
  clear hK Kc
  try simp only [Act.put, List.setIfInBounds_toArray, List.set_cons_zero, List.set_cons_succ]
  refine' wpAnyH_take (i := 15) (oi := ⟨some 20, _, _, _, _, _⟩) (v := _) rfl (by kernel_rfl) (by kernel_rfl) (by kernel_rfl) (fun _ _ _ h => h) (Or.inl ⟨by rfl, ?y15c⟩) hS3 ?r15c
  case y15c => (intro w' hSw; go_simp; try rfl)
  try simp only [Act.put, List.setIfInBounds_toArray, List.set_cons_zero, List.set_cons_succ]
  refine held_one (i := 16) (by kernel_rfl) rfl (fun Kc hK => ?_)
  go_simp
  have hS4 := hS3.alloc hS3.size (.cells (osc g' Z1.heap.size Z2.heap.size) 84)
  refine hK.out _ _ hS4 (fun _ => ?_)
  clear hK Kc
  try simp only [Act.put, List.setIfInBounds_toArray, List.set_cons_zero, List.set_cons_succ]
  refine' wpAnyH_take (i := 17) (oi := ⟨some 2, _, _, _, _, _⟩) (v := _) rfl (by kernel_rfl) (by kernel_rfl) (by kernel_rfl) (fun _ _ _ h => h) (Or.inl ⟨by rfl, ?y17c⟩) hS4 ?r17c
  case y17c => (intro w' hSw; go_simp; try rfl)
  try simp only [Act.put, List.setIfInBounds_toArray, List.set_cons_zero, List.set_cons_succ]
  refine wpAnyH_done (by kernel_rfl) ?_ _
  go_wp2
  go_ret
  have z1 := hb1.size
  have z2 := hb2.size
  have z3 := hb3.size
  have hal : Below Z3.heap.size Z3 (Z3.alloc (.cells (osc g' Z1.heap.size Z2.heap.size) 84)) := (Below.refl _ _).alloc (Nat.le_refl _) _
  have hf : ∀ i, Foot g' v' i → w.heap.size ≤ i ∧ i < Z1.heap.size := fun i hi => ⟨by have := hf1 i hi; omega, hc1.lt i hi⟩
  refine ⟨_, rfl, ⟨Z3.heap.size, g', v', Z1.heap.size, Z2.heap.size, rfl, ⟨Blk.new _ _ _, hc3.below hal, ⟨ownsMap_below hm2' hal, ownsMap_below hm3 hal, H0.ma.okl, H0.ma.okt, ?_⟩, fun i hi => ?_, ?_⟩, ?_, ?_, ?_, fun i hi => (hf i hi).1⟩, hbz.trans (hS4.mono (Nat.le_of_eq hz0.symm))⟩
  · have := hm2.lt; omega
  · have := hf i hi; omega
  · have := hm2'.lt; have := hm3.lt; omega
  · omega
  · omega
  · omega
end
end Go.Proofs.YtldfaaahmpncbaaGreat

namespace Go.Proofs.YtldfaaahmpncbaaGreat
open Go.RowKit Go.Maps
open CtxM
set_option linter.unusedVariables false
set_option linter.unusedSimpArgs false
set_option maxRecDepth 20000

abbrev Cst := List Nat × List Dt
/-- One dot more, and Add's code. -/
def addG (S : Cst) (d : Dt) : Cst × Int :=
  if ¬ May d then (S, 2) else if In S.1 S.2 d then (S, 0) else if d.2 = at_ S.1 d.1 + 1 then (addF S d, 0) else if S.2.length = 4096 then (S, 5) else (addF S d, 0)
theorem cp_nextA (d : Dt) (B : List Dt) : ∀ (A : List Dt) (V : List Nat), V.length = 16 → (∀ x ∈ A, May x) → May d → d.2 ≤ at_ V d.1 + 1 → (cp V (A ++ d :: B)).2.length ≤ A.length + B.length
  | [], V, hV, hA, hd, h => by
    show (cp V (d :: B)).2.length ≤ 0 + B.length
    unfold cp
    split
    · have := cp_short B (V.set (d.1 - 1).toNat d.2); omega
    · rw [if_neg (by omega)]
      have := cp_short B V; omega
  | a :: A, V, hV, hA, hd, h => by
    have ha := hA a (by simp)
    have hA' := fun x hx => hA x (List.mem_cons_of_mem _ hx)
    show (cp V (a :: (A ++ d :: B))).2.length ≤ (A.length + 1) + B.length
    unfold cp
    split
    · rename_i e
      have := cp_nextA d B A (V.set (a.1 - 1).toNat a.2) (by simp [hV]) hA' hd (by
        rw [at_set V a.1 d.1 a.2 ha.1 hd.1 (by rw [hV]; exact ha.2.1)]
        split
        · rename_i e2; rw [e2] at h; omega
        · exact h)
      omega
    · split
      · have := cp_nextA d B A V hV hA' hd h
        simp only [List.length_cons]; omega
      · have := cp_nextA d B A V hV hA' hd h
        omega
theorem addF_next {S : Cst} {d : Dt} (h : Fit S.1 S.2) (hd : May d) (he : d.2 = at_ S.1 d.1 + 1) : (addF S d).2.length ≤ S.2.length := by
  unfold addF
  split
  · exact Nat.le_refl _
  · unfold ins
    refine Nat.le_trans (cp_nextA d _ _ _ h.len (fun x hx => h.may x (List.mem_filter.1 hx).1) hd (by omega)) ?_
    have := ins_len S.2 d
    unfold ins at this
    rw [List.length_append, List.length_cons] at this
    omega
theorem addG_fit {S : Cst} {d : Dt} (h : Fit S.1 S.2) (hl : S.2.length ≤ 4096) : Fit (addG S d).1.1 (addG S d).1.2 ∧ (addG S d).1.2.length ≤ 4096 := by
  unfold addG
  split
  · exact ⟨h, hl⟩
  · rename_i hM
    have hM : May d := by simpa using hM
    split
    · exact ⟨h, hl⟩
    · split
      · rename_i he
        exact ⟨(addF_spec h hM).1, Nat.le_trans (addF_next h hM he) hl⟩
      · split
        · exact ⟨h, hl⟩
        · exact ⟨(addF_spec h hM).1, by have := addF_short S d; show (addF S d).2.length ≤ 4096; omega⟩
theorem addC_any (g : Nat) (v : Value) (S : Cst) (d : Dt) (w : World) (hc : Cx w g v S.1 S.2) (hl : S.2.length ≤ 4096) :
    Calls Tryz.prog 41 #[.pointer (some ⟨g, 0, none⟩), .agg #[.int .i64 d.1, .int .u64 (d.2 : Int)]] w fun e w' =>
      ∃ b, e = .returned (.tuple #[.bool b, .int .i64 (addG S d).2]) ∧ Added w w' g v (addG S d).1 := by
  unfold addG
  by_cases hM : May d
  · rw [if_neg (by simpa using hM)]
    by_cases hI : In S.1 S.2 d
    · rw [if_pos hI]
      refine (add_old g v S.1 S.2 d w hc hM hI hl).mono ?_
      rintro e w' ⟨rfl, hg⟩
      exact ⟨_, rfl, .same hc hg⟩
    · rw [if_neg hI]
      by_cases he : d.2 = at_ S.1 d.1 + 1
      · rw [if_pos he]
        refine (add_next g v S.1 S.2 d w hc hM he hl).mono ?_
        rintro e w' ⟨rfl, ha⟩
        exact ⟨_, rfl, ha⟩
      · rw [if_neg he]
        by_cases hf : S.2.length = 4096
        · rw [if_pos hf]
          refine (add_full g v S.1 S.2 d w hc hM hI he hf).mono ?_
          rintro e w' ⟨rfl, hg⟩
          exact ⟨_, rfl, .same hc hg⟩
        · rw [if_neg hf]
          refine (add_ins g v S.1 S.2 d w hc hM hI he (by omega)).mono ?_
          rintro e w' ⟨rfl, ha⟩
          exact ⟨_, rfl, ha⟩
  · rw [if_pos hM]
    refine (add_bad g v S.1 S.2 d w hc hM).mono ?_
    rintro e w' ⟨rfl, hg⟩
    exact ⟨_, rfl, .same hc hg⟩
/-- The first time through: what stands then, and what is late. -/
def stepA (q : Cst × List Dt) (d : Dt) : Cst × List Dt := ((addG q.1 d).1, if (addG q.1 d).2 = 0 then q.2 else q.2 ++ [d])
def passA (S : Cst) (L : List Dt) : Cst × List Dt := L.foldl stepA (S, [])
theorem passA_snoc (S : Cst) (L : List Dt) (d : Dt) : passA S (L ++ [d]) = stepA (passA S L) d := by simp [passA]
theorem passA_take (S : Cst) (L : List Dt) (k : Nat) (hk : k < L.length) : passA S (L.take (k + 1)) = stepA (passA S (L.take k)) L[k] := by
  rw [List.take_succ_eq_append_getElem hk, passA_snoc]
theorem passA_late (S : Cst) : ∀ (L : List Dt), (passA S L).2.length ≤ L.length := by
  intro L
  unfold passA
  suffices ∀ (L : List Dt) (q : Cst × List Dt), (L.foldl stepA q).2.length ≤ q.2.length + L.length by
    have := this L (S, []); simpa using this
  intro L
  induction L with
  | nil => intro q; simp
  | cons d L ih =>
    intro q
    have := ih (stepA q d)
    rw [List.foldl_cons, List.length_cons]
    have h2 : (stepA q d).2.length ≤ q.2.length + 1 := by unfold stepA; simp only; split <;> simp
    omega
theorem passA_fit {S : Cst} (h : Fit S.1 S.2) (hl : S.2.length ≤ 4096) (L : List Dt) : Fit (passA S L).1.1 (passA S L).1.2 ∧ (passA S L).1.2.length ≤ 4096 := by
  unfold passA
  suffices ∀ (L : List Dt) (q : Cst × List Dt), Fit q.1.1 q.1.2 → q.1.2.length ≤ 4096 → Fit (L.foldl stepA q).1.1 (L.foldl stepA q).1.2 ∧ (L.foldl stepA q).1.2.length ≤ 4096 from this L (S, []) h hl
  intro L
  induction L with
  | nil => intro q h hl; exact ⟨h, hl⟩
  | cons d L ih => intro q h hl; exact ih (stepA q d) (addG_fit h hl).1 (addG_fit h hl).2
/-- The second time: none may be refused. -/
def passB : Option Cst → List Dt → Option Cst
  | o, [] => o
  | none, _ :: _ => none
  | some S, d :: L => passB (if (addG S d).2 = 0 then some (addG S d).1 else none) L
theorem passB_none (L : List Dt) : passB none L = none := by cases L <;> rfl
theorem passB_append : ∀ (L M : List Dt) (o : Option Cst), passB o (L ++ M) = passB (passB o L) M
  | [], M, o => by cases o <;> rfl
  | d :: L, M, none => by rw [passB_none, passB_none, passB_none]
  | d :: L, M, some S => by
    show passB (if (addG S d).2 = 0 then some (addG S d).1 else none) (L ++ M) = passB (passB (if (addG S d).2 = 0 then some (addG S d).1 else none) L) M
    exact passB_append L M _
theorem passB_take {S T : Cst} {L : List Dt} {k : Nat} (hk : k < L.length) (h : passB (some S) (L.take k) = some T) : passB (some S) (L.take (k + 1)) = if (addG T L[k]).2 = 0 then some (addG T L[k]).1 else none := by
  rw [List.take_succ_eq_append_getElem hk, passB_append, h]
  unfold passB
  split <;> rfl
theorem passB_cut {S : Cst} {L : List Dt} {k : Nat} (h : passB (some S) (L.take k) = none) : passB (some S) L = none := by
  rw [← List.take_append_drop k L, passB_append, h, passB_none]
theorem passB_fit : ∀ {L : List Dt} {S T : Cst}, Fit S.1 S.2 → S.2.length ≤ 4096 → passB (some S) L = some T → Fit T.1 T.2 ∧ T.2.length ≤ 4096
  | [], S, T, h, hl, e => by injection e with e; subst e; exact ⟨h, hl⟩
  | d :: L, S, T, h, hl, e => by
    unfold passB at e
    split at e
    · exact passB_fit (addG_fit h hl).1 (addG_fit h hl).2 e
    · rw [passB_none] at e; cases e
/-- A context that has turned since w0: it has its old blocks, or newer ones. -/
structure Cy (w0 w : World) (g : Nat) (v u : Value) (S : Cst) : Prop where
  cx : Cx w g u S.1 S.2
  len : S.2.length ≤ 4096
  foot : ∀ i, Foot g u i → Foot g v i ∨ w0.heap.size ≤ i
  kept : Keep (Foot g v) w0 w
theorem Cy.refl {w : World} {g : Nat} {v : Value} {S : Cst} (h : Cx w g v S.1 S.2) (hl : S.2.length ≤ 4096) : Cy w w g v v S := ⟨h, hl, fun i hi => .inl hi, .refl _ _⟩
theorem Cy.below {w0 w w' : World} {g : Nat} {v u : Value} {S : Cst} (h : Cy w0 w g v u S) (hb : Below w.heap.size w w') : Cy w0 w' g v u S :=
  ⟨h.cx.below hb, h.len, h.foot, h.kept.trans (T := fun _ => False) (.of_below hb) (fun _ h => h) (fun _ _ h => h.elim)⟩
theorem Cy.add {w0 w w' : World} {g : Nat} {v u : Value} {S T : Cst} (h : Cy w0 w g v u S) (ha : Added w w' g u T) (hT : T.2.length ≤ 4096) : ∃ u', Cy w0 w' g v u' T ∧ Keep (Foot g u) w w' ∧ Newer w.heap.size u u' := by
  obtain ⟨u', h1, h2, h3⟩ := ha
  have hz := h.kept.size
  refine ⟨u', ⟨h1, hT, ?_, h.kept.trans h2 (fun _ h => h) (fun i hi hf => (h.foot i hf).elim id fun h => absurd hi (by omega))⟩, h2, h3⟩
  rintro i (rfl | hi)
  · exact .inl (.inl rfl)
  · rcases h3 i hi with h4 | h4
    · exact h.foot i (.inr h4)
    · exact .inr (by omega)
theorem Cy.grown {w0 w w' : World} {g : Nat} {v u : Value} {S : Cst} (h : Cy w0 w g v u S) {row : Option Nat} (hg : w.grownBy w' row) (hr : ∀ k, row = some k → w0.heap.size ≤ k ∧ ¬ Foot g u k) : Cy w0 w' g v u S :=
  have k : Keep (fun i => row = some i) w w' := .of_grown hg (fun _ h => h)
  ⟨h.cx.kept k (fun i hi e => (hr i e).2 hi), h.len, h.foot, h.kept.trans k (fun _ h => h) (fun i hi e => absurd hi (by have := (hr i e).1; omega))⟩
theorem Cy.trans {w0 w w' : World} {g : Nat} {v u u' : Value} {S T : Cst} (h : Cy w0 w g v u S) (k : Cy w w' g u u' T) : Cy w0 w' g v u' T :=
  ⟨k.cx, k.len, fun i hi => (k.foot i hi).elim (h.foot i) fun hh => .inr (Nat.le_trans h.kept.size hh), h.kept.trans k.kept (fun _ h => h) (fun i hi hf => (h.foot i hf).elim id fun h => absurd hi (by omega))⟩
set_option maxHeartbeats 4000000 in
theorem oaddAll_any (g : Nat) (v : Value) (S : Cst) (base : Nat) (vd : Value) (L : List Dt) (w : World) (hc : Cx w g v S.1 S.2) (hX : S.2.length ≤ 4096) (ho : OwnD w base vd L) (hl : L.length ≤ 100000) (hfar : ∀ i, vd.ownBlock = some i → ¬ Foot g v i) :
    Calls Tryz.prog 76 #[.pointer (some ⟨g, 0, none⟩), vd] w fun e w' => ∃ M c, e = .returned (.int .i64 c) ∧ Ord M ∧ M.Perm L ∧ Keep (fun i => Foot g v i ∨ vd.ownBlock = some i) w w' ∧
      (c = 0 → ∃ T u, passB (some (passA S M).1) (passA S M).2 = some T ∧ Cx w' g u T.1 T.2 ∧ T.2.length ≤ 4096 ∧ ∀ i, Foot g u i → Foot g v i ∨ w.heap.size ≤ i) ∧ (c ≠ 0 → passB (some (passA S M).1) (passA S M).2 = none) := by
  obtain ⟨i0, hi, hz0, hz1, hz2⟩ := info_parts info_dot
  obtain ⟨Ad, nd, cd, rfl⟩ := ho.shape
  have hfl : Tryz.prog.follows .lateStores = true := by kernel_rfl
  go_enter Tryz.func76, Tryz.ntmps76
  go_wp2_with fail
  refine (osort_any _ L base w ho hl).mono ?_
  rintro e w3 ⟨rfl, M, ho3, hord, hperm, hml, hmem, hg3⟩
  have hd0 := (ho.lt · · |>.2)
  have hk3 : Keep (fun i => (Value.slice Ad nd cd).ownBlock = some i) w w3 := .of_grown hg3 fun _ h => h
  have hcx3 := hc.kept hk3 (fun i hi e => hfar i e hi)
  have hsd := ho3.sd
  obtain rfl := hsd.len
  have HM := Lib.hid (And.intro hord hperm)
  have HK3 := Lib.hid hk3
  have HF := Lib.hid hfar
  have hml' : M.length ≤ 100000 := by omega
  have hcy := Cy.refl hcx3 hX
  have hfar3 : ∀ i, (Value.slice Ad M.length cd).ownBlock = some i → i < w3.heap.size := fun i e => (ho3.lt i e).2
  clear hc ho hg3 hord hperm hml hmem hk3 hcx3 hd0 hfar ho3
  go_wp2_with fail
  go_loopw [5, 18] (fun z5 z wr => ∃ (k : Nat) (u : Value), z = .int .i64 (k : Int) ∧ k ≤ M.length ∧ Cy w3 wr g v u (passA S (M.take k)).1 ∧ OwnD wr w3.heap.size z5 (passA S (M.take k)).2 ∧ ∀ i, z5.ownBlock = some i → ¬ Foot g u i) (fun _ z _ => M.length - (intOf z).toNat)
  case atStart => exact ⟨0, v, rfl, Nat.zero_le _, hcy, OwnD.nil, fun i e => by cases e⟩
  case round =>
    obtain ⟨k, u, rfl, hk, hy, ho, hfu⟩ := hrel
    by_cases hlt : k < M.length
    · have hlti : (k : Int) < (M.length : Int) := by omega
      obtain ⟨d, hd⟩ : ∃ d, M[k] = d := ⟨_, rfl⟩
      obtain ⟨b, o, e0, k0, k1⟩ := (hsd.kept hy.kept (fun i e => HF.out i e)).at_ k hlt d hd
      subst e0
      have hal : Below wr.heap.size wr (wr.alloc (.cells #[.int .i64 d.1, .int .u64 (d.2 : Int)] 41)) := (Below.refl _ _).alloc (Nat.le_refl _) _
      have hbx := Blk.new wr 41 #[.int .i64 d.1, .int .u64 (d.2 : Int)]
      have hy1 := hy.below hal
      have ho1 := ho.below hal
      have hlate : (passA S (M.take k)).2.length ≤ 100000 := by
        have := passA_late S (M.take k)
        rw [List.length_take] at this
        omega
      have hst := passA_take S M k hlt
      rw [hd] at hst
      unfold stepA at hst
      have hbf : ¬ Foot g u wr.heap.size := fun h => by have := hy.cx.lt _ h; omega
      obtain ⟨st, hst0⟩ : ∃ st, passA S (M.take k) = st := ⟨_, rfl⟩
      rw [hst0] at hy hy1 ho ho1 hst hlate
      have HADD := Lib.hid (addC_any g u st.1 d _ hy1.cx hy1.len)
      have hg4 := (addG_fit (d := d) hy1.cx.fit hy1.len).2
      obtain ⟨T, hT⟩ : ∃ T, addG st.1 d = T := ⟨_, rfl⟩
      rw [hT] at HADD hst hg4
      have HY1 := Lib.hid hy1
      have HST := Lib.hid hst
      have HFU := Lib.hid hfu
      have HO1 := Lib.hid ho1
      have HX := Lib.hid hbx
      clear hy hy1 ho ho1 hd hst hst0 hT hfu hbx
      go_wp2_with fail
      refine HADD.out.mono ?_
      rintro e wx ⟨bb, rfl, ha⟩
      clear HADD
      obtain ⟨u', hy2, hku, hnu⟩ := HY1.out.add ha hg4
      have hbx2 := HX.out.kept hku hbf
      have ho2 := HO1.out.kept hku (fun i e => HFU.out i e)
      have hfu2 : ∀ i, u5.ownBlock = some i → ¬ Foot g u' i := fun i e hf => by
        have hi := (HO1.out.lt i e).2
        rcases hf with rfl | hf
        · exact HFU.out _ e (.inl rfl)
        · rcases hnu i hf with h | h
          · exact HFU.out _ e (.inr h)
          · omega
      have hzz := hy2.kept.size
      by_cases hc : T.2 = 0
      · have HC := Lib.hid hc
        rw [if_pos hc] at HST
        rw [hc]
        have HE := Lib.hid (And.intro hy2 (And.intro ho2 hfu2))
        clear hc hy2 ho2 hfu2 ha hku hnu
        go_wp2_with fail
        exact ⟨⟨k + 1, u', by go_num, hlt, by rw [HST.out]; exact HE.out.1, by rw [HST.out]; exact HE.out.2.1, HE.out.2.2⟩, by simp [intOf]; omega⟩
      · have hcb : (T.2 != 0) = true := by simpa using hc
        rw [if_neg hc] at HST
        have q2 : wx.cell? ⟨wr.heap.size, 0, none⟩ = some (.int .i64 d.1) := by rw [hbx2.cell]; rfl
        have q3 : wx.cell? ⟨wr.heap.size, 1, none⟩ = some (.int .u64 (d.2 : Int)) := by rw [hbx2.cell]; rfl
        obtain ⟨A5, n5, c5, rfl⟩ := ho2.shape
        have hal2 : Below wx.heap.size wx (wx.alloc (.cells #[.int .i64 d.1, .int .u64 (d.2 : Int)] 41)) := (Below.refl _ _).alloc (Nat.le_refl _) _
        have ho3 := ho2.below hal2
        have hs1 : Sd (wx.alloc (.cells #[.int .i64 d.1, .int .u64 (d.2 : Int)] 41)) (.slice (some ⟨wx.heap.size, 0, none⟩) 1 1) [d] := sd_one (Blk.new _ _ _) (Nat.le_refl _)
        have hlen : st.2.length + [d].length ≤ 1000000 := by simp; omega
        have hbase : w3.heap.size ≤ (wx.alloc (.cells #[.int .i64 d.1, .int .u64 (d.2 : Int)] 41)).heap.size := by simp; omega
        have HE := Lib.hid (And.intro (hy2.below hal2) hfu2)
        have HC := Lib.hid hc
        clear hy2 ho2 hfu2 ha hku hnu hbx2 hc
        go_wp2_with (at_builtin; refine wpList_append_dots _ rfl (.tmp 30) (.tmp 32) 30 rfl w3.heap.size i0 Tryz.underlying30 hi hz0 hz1 hz2 _ st.2 rfl ho3 _ [d] rfl hs1 hlen hbase ?_)
        intro v' w5 ho6 hgr _ hnw
        have hy6 := HE.out.1.grown hgr (fun i e => ⟨(ho3.lt i e).1, HE.out.2 i e⟩)
        have hf6 : ∀ i, v'.ownBlock = some i → ¬ Foot g u' i := fun i e hf => by
          rcases hnw i e with h | h
          · exact HE.out.2 i h hf
          · have := HE.out.1.cx.lt i hf
            simp at this
            omega
        have HZ := Lib.hid (And.intro hy6 (And.intro ho6 hf6))
        clear hy6 ho6 hf6 hgr hnw hs1 ho3
        go_wp2_with fail
        exact ⟨⟨k + 1, u', by go_num, hlt, by rw [HST.out]; exact HZ.out.1, by rw [HST.out]; exact HZ.out.2.1, HZ.out.2.2⟩, by simp [intOf]; omega⟩
    · obtain rfl : k = M.length := by omega
      have hlti : ¬ ((M.length : Int) < (M.length : Int)) := by omega
      rw [List.take_length] at hy ho
      have hla := passA_late S M
      obtain ⟨st, hst0⟩ : ∃ st, passA S M = st := ⟨_, rfl⟩
      rw [hst0] at hy ho hla
      have hsl := ho.sd
      obtain ⟨A6, n6, c6, rfl⟩ := ho.shape
      obtain rfl := hsl.len
      have HY := Lib.hid hy
      have HFU := Lib.hid hfu
      have hcy2 := Cy.refl hy.cx hy.len
      have HS0 := Lib.hid hst0
      clear hy ho hfu hst0 hsd hcy
      go_wp2_with fail
      go_loopw [37] (fun z wx => ∃ (k : Nat) (u2 : Value) (T : Cst), z = .int .i64 (k : Int) ∧ k ≤ st.2.length ∧ Cy wr wx g u u2 T ∧ passB (some st.1) (st.2.take k) = some T) (fun z _ => st.2.length - (intOf z).toNat)
      case atStart => exact ⟨0, u, st.1, rfl, Nat.zero_le _, hcy2, by simp [passB]⟩
      case round =>
        obtain ⟨k, u2, T, rfl, hk, hy, hT⟩ := hrel
        by_cases hlt2 : k < st.2.length
        · have hlti2 : (k : Int) < (st.2.length : Int) := by omega
          obtain ⟨d, hd⟩ : ∃ d, st.2[k] = d := ⟨_, rfl⟩
          obtain ⟨b, o, e0, k0, k1⟩ := (hsl.kept hy.kept (fun i e => HFU.out i e)).at_ k hlt2 d hd
          subst e0
          have hal : Below wr.heap.size wr (wr.alloc (.cells #[.int .i64 d.1, .int .u64 (d.2 : Int)] 41)) := (Below.refl _ _).alloc (Nat.le_refl _) _
          have hy1 := hy.below hal
          have hst := passB_take hlt2 hT
          rw [hd] at hst
          have HADD := Lib.hid (addC_any g u2 T d _ hy1.cx hy1.len)
          have hg4 := (addG_fit (d := d) hy1.cx.fit hy1.len).2
          obtain ⟨R, hR⟩ : ∃ R, addG T d = R := ⟨_, rfl⟩
          rw [hR] at HADD hst hg4
          have HY1 := Lib.hid hy1
          have HST := Lib.hid hst
          clear hy hy1 hd hst hR hT
          go_wp2_with fail
          refine HADD.out.mono ?_
          rintro e wz ⟨bb, rfl, ha⟩
          clear HADD
          obtain ⟨u3, hy2, _, _⟩ := HY1.out.add ha hg4
          by_cases hc : R.2 = 0
          · rw [if_pos hc] at HST
            rw [hc]
            have HE := Lib.hid hy2
            clear hc hy2 ha
            go_wp2_with fail
            exact ⟨⟨k + 1, u3, R.1, by go_num, hlt2, HE.out, HST.out⟩, by simp [intOf]; omega⟩
          · have hcb : (R.2 != 0) = true := by simpa using hc
            rw [if_neg hc] at HST
            have HE := Lib.hid (And.intro hy2 hc)
            clear hc hy2 ha
            go_wp2_with fail
            go_ret
            have hyz := HY.out.trans HE.out.1
            refine ⟨M, R.2, rfl, HM.out.1, HM.out.2, HK3.out.trans hyz.kept (fun _ h => .inr h) (fun _ _ h => .inl h), fun h => absurd h HE.out.2, fun _ => ?_⟩
            rw [HS0.out]
            exact passB_cut HST.out
        · obtain rfl : k = st.2.length := by omega
          have hlti2 : ¬ ((st.2.length : Int) < (st.2.length : Int)) := by omega
          rw [List.take_length] at hT
          have HE := Lib.hid (And.intro hy hT)
          clear hy hT
          go_wp2
          go_ret
          have hyz := HY.out.trans HE.out.1
          refine ⟨M, 0, rfl, HM.out.1, HM.out.2, HK3.out.trans hyz.kept (fun _ h => .inr h) (fun _ _ h => .inl h), fun _ => ⟨T.1, T.2, by rw [HS0.out]; exact HE.out.2, u2, hyz.cx, hyz.len, fun i hi => (hyz.foot i hi).imp id fun h => Nat.le_trans HK3.out.size h⟩, fun h => absurd rfl h⟩
end Go.Proofs.YtldfaaahmpncbaaGreat

namespace Go.Proofs.YtldfaaahmpncbaaGreat
open Go.RowKit Go.Maps
open CtxM
set_option linter.unusedVariables false
set_option linter.unusedSimpArgs false
set_option maxRecDepth 20000

theorem SlK.item {w : World} {A : Option Addr} {n c : Nat} {L : List It} (h : SlK kIt w (.slice A n c) L) (j : Nat) (hj : j < L.length) (i : It) (hi : L[j] = i) : ∃ b o, A = some ⟨b, o, none⟩ ∧ w.cell? ⟨b, o + j * 5, none⟩ = some (.int .i64 i.d.1) ∧ w.cell? ⟨b, o + j * 5 + 1, none⟩ = some (.int .u64 (i.d.2 : Int)) ∧ w.cell? ⟨b, o + j * 5 + 2, none⟩ = some (.string i.t) ∧ w.cell? ⟨b, o + j * 5 + 3, none⟩ = some (.string i.v) ∧ w.cell? ⟨b, o + j * 5 + 4, none⟩ = some (.bool i.g) := by
  obtain ⟨b, o, e, hx⟩ := h.at_ j hj
  refine ⟨b, o, e, ?_⟩
  have h0 := hx 0 (by decide)
  have h1 := hx 1 (by decide)
  have h2 := hx 2 (by decide)
  have h3 := hx 3 (by decide)
  have h4 := hx 4 (by decide)
  rw [hi] at h0 h1 h2 h3 h4
  exact ⟨h0, h1, h2, h3, h4⟩
set_option maxHeartbeats 1000000 in
theorem see1_any (i : It) (w : World) : Calls Tryz.prog 71 #[.agg #[.int .i64 i.d.1, .int .u64 (i.d.2 : Int), .string i.t, .string i.v, .bool i.g]] w fun e w' => e = .returned (.bool (!itB i)) ∧ Below w.heap.size w w' := by
  have HM := Lib.hid (fun W => omay_any i W)
  obtain ⟨r, hr⟩ : ∃ r, itB i = r := ⟨_, rfl⟩
  rw [hr] at HM ⊢
  clear hr
  go_enter Tryz.func71, Tryz.ntmps71
  go_wp2_with fail
  refine (HM.out _).mono ?_
  rintro e w' ⟨rfl, hg⟩
  have hb := hg.below
  clear HM hg
  go_wp2
  go_ret
  exact ⟨rfl, ((Below.refl w.heap.size w).alloc (Nat.le_refl _) (.cells (itc i) 48)).trans (hb.mono (by simp))⟩
theorem enter_see1 : ∀ args w, (callFunc 71 args).run Tryz.prog w = .ok (.enter 71 args) w := enters_of Tryz.func71 (by kernel_rfl) rfl
set_option maxHeartbeats 2000000 in
theorem indexI_any (v : Value) (L : List It) (w : World) (hs : SlK kIt w v L) (hL : L.length ≤ 900000) :
    Calls Tryz.prog 103 #[v, .func (.func 71) #[] #[]] w fun e w' => ∃ z : Int, e = .returned (.int .i64 z) ∧ (0 ≤ z ↔ ∃ i ∈ L, itB i = false) ∧ Below w.heap.size w w' := by
  have eg := enter_see1
  obtain ⟨A, c, rfl⟩ := hs.shape
  go_enter Tryz.func103, Tryz.ntmps103
  go_wp2_with fail
  go_loopw [8] (fun z wr => ∃ k : Nat, z = .int .i64 (k : Int) ∧ k ≤ L.length ∧ (∀ j (hj : j < L.length), j < k → itB L[j] = true) ∧ Below w.heap.size w wr) (fun z _ => L.length - (intOf z).toNat)
  case atStart => exact ⟨0, rfl, Nat.zero_le _, fun j hj h => absurd h (by omega), Below.refl _ _⟩
  case round =>
    obtain ⟨k, rfl, hk, hall, hb⟩ := hrel
    have HALL := Lib.hid hall
    clear hall
    by_cases hlt : k < L.length
    · have hlti : (k : Int) < (L.length : Int) := by omega
      obtain ⟨i, hi⟩ : ∃ i, L[k] = i := ⟨_, rfl⟩
      obtain ⟨b, o, e0, k0, k1, k2, k3, k4⟩ := (hs.below hb).item k hlt i hi
      subst e0
      have HDC := Lib.hid (see1_any i wr)
      have HX := Lib.hid hi
      have HLT := Lib.hid hlt
      clear hi
      go_wp2_with fail
      refine HDC.out.mono ?_
      rintro e w2 ⟨rfl, hb2⟩
      have hbw := hb.trans (hb2.mono hb.size)
      clear HDC
      cases hq : itB i
      · go_wp2
        go_ret
        exact ⟨(k : Int), rfl, ⟨fun _ => ⟨i, by rw [← HX.out]; exact List.getElem_mem HLT.out, hq⟩, fun _ => Int.natCast_nonneg k⟩, hbw⟩
      · go_wp2
        refine ⟨⟨k + 1, by go_num, HLT.out, fun j h1 h2 => ?_, hbw⟩, by have := HLT.out; simp [intOf]; omega⟩
        rcases Nat.lt_or_ge j k with h | h
        · exact HALL.out j h1 h
        · obtain rfl : j = k := by omega
          rw [HX.out]; exact hq
    · obtain rfl : k = L.length := by omega
      have hlti : ¬ ((L.length : Int) < (L.length : Int)) := by omega
      go_wp2
      go_ret
      refine ⟨-1, rfl, ⟨fun h => absurd h (by decide), ?_⟩, hb⟩
      rintro ⟨i, hi, hf⟩
      obtain ⟨j, hj, rfl⟩ := List.getElem_of_mem hi
      rw [HALL.out j hj hj] at hf
      cases hf
set_option maxHeartbeats 1000000 in
theorem containsI_any (v : Value) (L : List It) (w : World) (hs : SlK kIt w v L) (hL : L.length ≤ 900000) :
    Calls Tryz.prog 70 #[v, .func (.func 71) #[] #[]] w fun e w' => e = .returned (.bool (decide (∃ i ∈ L, itB i = false))) ∧ Below w.heap.size w w' := by
  have HI := Lib.hid (indexI_any v L w hs hL)
  obtain ⟨A, c, rfl⟩ := hs.shape
  clear hs
  obtain ⟨r, hr⟩ : ∃ r, decide (∃ i ∈ L, itB i = false) = r := ⟨_, rfl⟩
  rw [hr]
  have HR := Lib.hid hr
  clear hr
  go_enter Tryz.func70, Tryz.ntmps70
  go_wp2_with fail
  refine HI.out.mono ?_
  rintro e w2 ⟨z, rfl, hz, hb⟩
  have hzz : decide ((0 : Int) ≤ z) = r := by rw [← HR.out, Bool.eq_iff_iff, decide_eq_true_iff, decide_eq_true_iff]; exact hz
  clear HI HR hz
  subst hzz
  go_wp2
  go_ret
  exact ⟨by simp, hb⟩
end Go.Proofs.YtldfaaahmpncbaaGreat

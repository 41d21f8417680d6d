/-
  The document's Bytes of an event.
-/
import Derived.Test.YtigepbklpiilpaaEvBy
import Derived.Test.YtigepbklpiilpaaDot
import Derived.Test.YtigepbklpiilpaaHeldA
import Derived.Test.YtigepbklpiilpaaEvRMay
import Derived.Deep.Cut
import Derived.Deep.CutRange
namespace Go.Proofs.Ytigepbklpiilpaa
open Go.RowKit
open CtxM
set_option linter.unusedVariables false
set_option linter.unusedSimpArgs false
set_option maxRecDepth 20000

theorem info_sl : (Try.prog.info? 25).map (fun i => (i.zero, i.size, i.bytes)) = some (some (.slice none 0 0), 1, 24) := by kernel_rfl
/-- Rows of bytes of the call's own. -/
def OwnAll (w : World) (B : Nat) : List Value → List (List UInt8) → Prop
  | [], [] => True
  | v :: vs, l :: ls => Own w B 5 v l ∧ OwnAll w B vs ls
  | _, _ => False
theorem OwnAll.length {w : World} {B : Nat} : ∀ {vs : List Value} {ls : List (List UInt8)}, OwnAll w B vs ls → vs.length = ls.length
  | [], [], _ => rfl
  | _ :: vs, _ :: ls, h => by simp [OwnAll.length h.2]
theorem OwnAll.sls {w : World} {B : Nat} : ∀ {vs : List Value} {ls : List (List UInt8)}, OwnAll w B vs ls → SlAll w vs ls
  | [], [], _ => trivial
  | _ :: vs, _ :: ls, h => ⟨h.1.sl, OwnAll.sls h.2⟩
theorem OwnAll.append {w : World} {B : Nat} : ∀ {vs us : List Value} {ls ms : List (List UInt8)}, OwnAll w B vs ls → OwnAll w B us ms → OwnAll w B (vs ++ us) (ls ++ ms)
  | [], _, [], _, _, k => k
  | _ :: vs, _, _ :: ls, _, h, k => ⟨h.1, OwnAll.append h.2 k⟩
theorem OwnAll.keep {w w' : World} {B : Nat} (hk : ∀ v l, Own w B 5 v l → Own w' B 5 v l) : ∀ {vs : List Value} {ls : List (List UInt8)}, OwnAll w B vs ls → OwnAll w' B vs ls
  | [], [], _ => trivial
  | _ :: vs, _ :: ls, h => ⟨hk _ _ h.1, OwnAll.keep hk h.2⟩
theorem OwnAll.below {w w' : World} {B : Nat} {vs : List Value} {ls : List (List UInt8)} (h : OwnAll w B vs ls) (hb : Below w.heap.size w w') : OwnAll w' B vs ls := h.keep fun v l ho => ho.below hb (Nat.le_refl _)
theorem OwnAll.one {w : World} {B : Nat} : ∀ {vs : List Value} {ls : List (List UInt8)}, OwnAll w B vs ls → ∀ v ∈ vs, v.oneCell' = true
  | [], [], _, v, hv => by cases hv
  | u :: vs, l :: ls, h, v, hv => by
    rcases List.mem_cons.1 hv with rfl | hv
    · obtain ⟨A, n, c, rfl⟩ := h.1.shape; rfl
    · exact OwnAll.one h.2 v hv
/-- A row of rows. -/
structure OL (w : World) (B : Nat) (v : Value) (ls : List (List UInt8)) : Prop where
  row : ∃ vs, w.ownsRow B 25 1 v vs.length vs ∧ OwnAll w B vs ls
theorem OL.below {w w' : World} {B : Nat} {v : Value} {ls : List (List UInt8)} (h : OL w B v ls) (hb : Below w.heap.size w w') : OL w' B v ls := by
  obtain ⟨vs, h1, h2⟩ := h.row
  refine ⟨vs, ⟨h1.1, ?_⟩, h2.below hb⟩
  rcases h1.2 with h3 | ⟨g, cap, cur, rfl, hg, hh, r⟩
  · exact Or.inl h3
  · refine Or.inr ⟨g, cap, cur, rfl, hg, (hb.block g ?_).trans hh, r⟩
    rcases Nat.lt_or_ge g w.heap.size with h5 | h5
    · exact h5
    · rw [Array.getElem?_eq_none h5] at hh; cases hh
theorem OL.new {w : World} {B : Nat} {C : Array Value} {ls : List (List UInt8)} (n : Nat) (hB : B ≤ w.heap.size) (h : OwnAll w B C.toList ls) (hn : n = C.toList.length) (hl : n ≤ 1000000) : OL (w.alloc (.cells C 25)) B (.slice (some ⟨w.heap.size, 0, none⟩) n n) ls := by
  subst hn
  refine ⟨C.toList, ⟨by simp, .inr ⟨w.heap.size, C.toList.length, C, rfl, hB, heap_alloc_new w _, Nat.le_refl _, by unfold maxLen; omega, by simp, by rw [List.take_of_length_le (by simp)]⟩⟩, h.below ((Below.refl _ _).alloc (Nat.le_refl _) _)⟩
theorem OL.sls {w : World} {B : Nat} {v : Value} {ls : List (List UInt8)} (h : OL w B v ls) : Sls w v ls := by
  obtain ⟨vs, h1, h2⟩ := h.row
  have hlen := h2.length
  rcases h1.2 with ⟨rfl, h0⟩ | ⟨g, cap, cur, rfl, _, hh, hnc, _, hs, ht⟩
  · have : ls = [] := List.eq_nil_of_length_eq_zero (by omega)
    subst this
    exact ⟨none, 0, rfl, by simp, fun hn => absurd hn (by simp)⟩
  · refine ⟨some ⟨g, 0, none⟩, cap, by rw [hlen], by omega, fun _ => ⟨g, 0, rfl, fun j hj => ?_⟩⟩
    obtain ⟨u, hu, hs'⟩ := h2.sls.get j hj
    refine ⟨u, ?_, hs'⟩
    have := World.ownsRow.cells h1 (g := g) rfl j u hu
    rwa [add_plain] at this
theorem OL.shape {w : World} {B : Nat} {v : Value} {ls : List (List UInt8)} (h : OL w B v ls) : ∃ A n c, v = .slice A n c := by
  obtain ⟨A, c, e, _⟩ := h.sls
  exact ⟨A, _, c, e⟩
theorem Own.past {w w' : World} {B B' n : Nat} {u v : Value} {l : List UInt8} {xs : List Value} (h : Own w B 5 u l) (hr : w.ownsRow B' 25 1 v n xs) (hg : w.grownBy w' v.ownBlock) : Own w' B 5 u l := by
  refine ⟨h.1, ?_⟩
  rcases h.2 with h3 | ⟨g, cap, cur, rfl, hgB, hh, r⟩
  · exact Or.inl h3
  · refine Or.inr ⟨g, cap, cur, rfl, hgB, (hg.block g ?_ (fun e => ?_)).trans hh, r⟩
    · rcases Nat.lt_or_ge g w.heap.size with h5 | h5
      · exact h5
      · rw [Array.getElem?_eq_none h5] at hh; cases hh
    · rcases hr.2 with ⟨rfl, _⟩ | ⟨g', cap', cur', rfl, _, hh', _⟩
      · cases e
      · injection e with e
        subst e
        rw [hh] at hh'
        injection hh' with h6
        injection h6 with _ h7
        exact absurd h7 (by decide)
theorem run_append_ol {P : Program} (w : World) (B : Nat) (t ty : TypeId) (i : TypeInfo) (ht : P.underlying t = some (.slice 25)) (hi : P.info? 25 = some i) (hz : i.zero = some (.slice none 0 0)) (hsize : i.size = 1) (hby : i.bytes = 24)
    (v : Value) (ls : List (List UInt8)) (hv : OL w B v ls) (g m : Nat) (C : Array Value) (hC : Blk w g 25 C) (ms : List (List UInt8)) (ho : OwnAll w B C.toList ms) (hm : m = C.toList.length) (hlen : ls.length + m ≤ 1000000) (hb : B ≤ w.heap.size) :
    ∃ v' w', (Builtin.append_ #[t, t] ty #[v, .slice (some ⟨g, 0, none⟩) m m]).run P w = .ok v' w' ∧ OL w' B v' (ls ++ ms) ∧ Below B w w' := by
  subst hm
  obtain ⟨vs, h1, h2⟩ := hv.row
  have hl := h2.length
  obtain ⟨v', w', hrun, h3, h4, _, _⟩ := run_append_own_at (P := P) w B t ty _ i (.slice none 0 0) 1 24 ht hi hz hsize hby rfl (by decide) v vs.length vs h1 ⟨g, 0, none⟩ C.toList.length C.toList.length C.toList (by simp)
    (fun j u hu => by rw [add_plain, Nat.zero_add, hC.cell]; simpa using hu) ho.one (by unfold maxLen; omega) (by omega) hb
  have hbb : Below B w w' := (Below.refl B w).grown h4 hb (fun k hk => (World.ownsRow.lt h1 k hk).1)
  refine ⟨v', w', hrun, ⟨vs ++ C.toList, by rw [List.length_append]; exact h3, OwnAll.append (h2.keep fun u l hu => hu.past h1 h4) (ho.keep fun u l hu => hu.past h1 h4)⟩, hbb⟩
theorem step_append_ol {P : Program} (w : World) {ops : Array Oper} {o : Oper} {a : Act} {K : Act → World → Prop} {Q : Exit → Act → World → Prop} {E : Prop} (hgd : o.guard = none) (s x : Operand) (t : TypeId)
    (ho : o.op = .call { callee := .builtin .append, args := #[s, x], argTypes := #[t, t] }) (B : Nat) (i : TypeInfo) (ht : P.underlying t = some (.slice 25)) (hi : P.info? 25 = some i) (hz : i.zero = some (.slice none 0 0)) (hsize : i.size = 1) (hby : i.bytes = 24)
    (v : Value) (ls : List (List UInt8)) (hs : a.eval s = v) (hv : OL w B v ls) (g m : Nat) (hx : a.eval x = .slice (some ⟨g, 0, none⟩) m m) (C : Array Value) (hC : Blk w g 25 C) (ms : List (List UInt8)) (hoa : OwnAll w B C.toList ms) (hm : m = C.toList.length) (hlen : ls.length + m ≤ 1000000) (hb : B ≤ w.heap.size)
    (h : ∀ v' w', OL w' B v' (ls ++ ms) → Below B w w' → K (a.put o.dst v') w') : if Region.wanted o (yielded ops a.tmps) = true then Oper.wp P o a w K Q else E := by
  have hw : Region.wanted o (yielded ops a.tmps) = true := by simp [Region.wanted, hgd]
  rw [if_pos hw]
  obtain ⟨v', w', hr, h2, h3⟩ := run_append_ol (P := P) w B t o.type i ht hi hz hsize hby v ls hv g m C hC ms hoa hm hlen hb
  unfold Oper.wp execOp
  simp only [ho, resolve, invoke, builtin, Sem.run_bind, Sem.run_pure, Result.andThen_ok, List.map_toArray, List.map_cons, List.map_nil, hs, hx, hr]
  exact h v' w' h2 h3
def headL (x : Ev) (r : Nat) : List (List UInt8) := [beB 1 r ++ beB 8 x.id.2, beB 2 x.topic.data.toList.length ++ x.topic.data.toList, beB 2 x.P.length ++ x.P, vecB x.V, beB 2 x.T.length]
/-- The lists up to the i-th dest. -/
def lsTo (x : Ev) (r i : Nat) : List (List UInt8) := headL x r ++ ((x.T.take i).map fun t => [dotB t.1, blobB t.2.data.toList]).flatten
theorem lsTo_next (x : Ev) (r i : Nat) (h : i < x.T.length) : lsTo x r (i + 1) = lsTo x r i ++ [dotB x.T[i].1, blobB x.T[i].2.data.toList] := by
  unfold lsTo
  rw [List.take_succ_eq_append_getElem h, List.map_append, List.flatten_append]
  simp [List.append_assoc]
theorem lsTo_length (x : Ev) (r i : Nat) : (lsTo x r i).length ≤ 5 + 2 * i := by
  unfold lsTo headL
  rw [List.length_append]
  have : ∀ (L : List De), ((L.map fun t => [dotB t.1, blobB t.2.data.toList]).flatten).length = 2 * L.length := by
    intro L
    induction L with
    | nil => rfl
    | cons t L ih => simp only [List.map_cons, List.flatten_cons, List.length_append, ih, List.length_cons, List.length_nil]; omega
  rw [this, List.length_take]
  simp
  omega
theorem lsTo_flat (x : Ev) (r : Nat) (hr : x.id.1 = (r : Int)) (i : Nat) : (lsTo x r i).flatten = bytesTo x i := by
  have : ∀ (L : List De), ((L.map fun t => [dotB t.1, blobB t.2.data.toList]).flatten).flatten = (L.map deB).flatten := by
    intro L
    induction L with
    | nil => rfl
    | cons t L ih => simp only [List.map_cons, List.flatten_cons, List.flatten_append, ih, deB]; simp
  unfold lsTo bytesTo headB headL
  rw [List.flatten_append, this]
  have hd : dotB x.id = beB 1 r ++ beB 8 x.id.2 := by rw [dotB, hr]; rfl
  rw [hd]
  simp [blobB, List.append_assoc]

set_option maxHeartbeats 8000000 in
theorem rbytes_any (x : Ev) (w : World) (hx : EvOk w x) (hE : evB x = true) : Calls Try.prog 12 #[.agg (evc x)] w fun e w' => ∃ v, e = .returned v ∧ Sl w' v (evBytes x) ∧ Below w.heap.size w w' := by
  have hfo : Try.prog.follows .mixedOrders = true := by kernel_rfl
  have hB0 := Blk.new w 30 (evc x)
  have hb0 : Below w.heap.size w (w.alloc (.cells (evc x) 30)) := (Below.refl _ _).alloc (Nat.le_refl _) _
  have hz0 : (w.alloc (.cells (evc x) 30)).heap.size = w.heap.size + 1 := by simp
  have hV := hx.len
  have hlt := hx.lt
  obtain ⟨Ap, cp, hpl, _⟩ := id hx.pl
  obtain ⟨At, ct, hto⟩ := hx.to.shape
  have hX0 := hx.below hb0
  obtain ⟨hpast, hname, hplen, hTo⟩ := evB_iff.1 hE
  have hM := hpast.1
  obtain ⟨r, hr, hr255⟩ := nat_of hM
  have hc64 : x.id.2 < 18446744073709551616 := by have := hM.2.2.2; unfold top at this; omega
  have hnl := name_le hname
  have hT1 := hTo.1
  have htl := str_len x.topic
  have HTO := Lib.hid hTo
  have HBL := Lib.hid (bytesTo_length hE hV)
  have HXW := Lib.hid hx
  clear hE hpast hTo hname hM hx
  go_enter Try.func12, Try.ntmps12
  go_upto_region 1 with fail
  generalize w.alloc (.cells (evc x) 30) = w1 at hB0 hb0 hX0 hz0 ⊢
  have a0 := ev_0 hB0
  have a1 := ev_1 hB0
  have a2 := ev_2 hB0
  have a3 := ev_3 hB0
  have a20 := ev_20 hB0 hV
  rw [hr] at a0
  rw [hpl] at a3
  rw [hto] at a20
  have ar : w1.rangeAt w.heap.size 4 (x.V.map uq) := ev_range hB0 hV
  have hwT : IntKind.u64.wrap (x.T.length : Int) = (x.T.length : Int) := by rw [IntKind.wrap_u64]; omega
  go_cut [3] from 5 to 23 (fun v wc => OL wc (w.heap.size + 1) v [beB 1 r ++ beB 8 x.id.2, beB 2 x.topic.data.toList.length ++ x.topic.data.toList, beB 2 x.P.length ++ x.P, vecB x.V, beB 2 x.T.length] ∧ Below w1.heap.size w1 wc)
  case first =>
    refine held_begin hfo ?_
    have hX0' : EvOk w1.drew x := ⟨hX0.pl, hX0.to, hX0.len, hX0.lt⟩
    replace a0 : w1.drew.cell? ⟨w.heap.size, 0, none⟩ = some (.int .i64 (r : Int)) := a0
    replace a1 : w1.drew.cell? ⟨w.heap.size, 1, none⟩ = some (.int .u64 (x.id.2 : Int)) := a1
    replace a2 : w1.drew.cell? ⟨w.heap.size, 2, none⟩ = some (.string x.topic) := a2
    replace a3 : w1.drew.cell? ⟨w.heap.size, 3, none⟩ = some (.slice Ap x.P.length cp) := a3
    replace a20 : w1.drew.cell? ⟨w.heap.size, 20, none⟩ = some (.slice At x.T.length ct) := a20
    replace ar : w1.drew.rangeAt w.heap.size 4 (x.V.map uq) := ar
    have hz1 : w1.drew.heap.size = w.heap.size + 1 := hz0
    have hdd : Below w1.heap.size w1 w1.drew := (Below.refl _ _).drew
    clear hX0 hz0 hB0 hb0
    generalize hZZ : w1.drew = Z0 at *
    clear hZZ
    refine' wpAnyH_take (i := 0) (oi := ⟨some 5, _, _, _, _, _⟩) (v := _) rfl (by kernel_rfl) (by kernel_rfl) (by kernel_rfl) (fun _ _ _ h => h) (Or.inl ⟨by rfl, ?y0q⟩) (Keeps.refl _) ?r0q
    case y0q => (intro w' hSw; go_simp; try rfl)
    try simp only [Act.put, List.setIfInBounds_toArray, List.set_cons_zero, List.set_cons_succ]
    refine' wpAnyH_take (i := 1) (oi := ⟨some 6, _, _, _, _, _⟩) (v := _) rfl (by kernel_rfl) (by kernel_rfl) (by kernel_rfl) (fun _ _ _ h => h) (Or.inl ⟨by rfl, ?y1q⟩) (Keeps.refl _) ?r1q
    case y1q => (intro w' hSw; have q0 := hSw _ _ a0; have q1 := hSw _ _ a1; go_simp; try rfl)
    try simp only [Act.put, List.setIfInBounds_toArray, List.set_cons_zero, List.set_cons_succ]
    refine' wpAnyH_take (i := 3) (oi := ⟨some 8, _, _, _, _, _⟩) (v := _) rfl (by kernel_rfl) (by kernel_rfl) (by kernel_rfl) (fun _ _ _ h => h) (Or.inl ⟨by rfl, ?y3q⟩) (Keeps.refl _) ?r3q
    case y3q => (intro w' hSw; go_simp; try rfl)
    try simp only [Act.put, List.setIfInBounds_toArray, List.set_cons_zero, List.set_cons_succ]
    refine' wpAnyH_take (i := 4) (oi := ⟨some 9, _, _, _, _, _⟩) (v := _) rfl (by kernel_rfl) (by kernel_rfl) (by kernel_rfl) (fun _ _ _ h => h) (Or.inl ⟨by rfl, ?y4q⟩) (Keeps.refl _) ?r4q
    case y4q => (intro w' hSw; have q0 := hSw _ _ a2; go_simp; try rfl)
    try simp only [Act.put, List.setIfInBounds_toArray, List.set_cons_zero, List.set_cons_succ]
    refine' wpAnyH_take (i := 7) (oi := ⟨some 12, _, _, _, _, _⟩) (v := _) rfl (by kernel_rfl) (by kernel_rfl) (by kernel_rfl) (fun _ _ _ h => h) (Or.inl ⟨by rfl, ?y7q⟩) (Keeps.refl _) ?r7q
    case y7q => (intro w' hSw; go_simp; try rfl)
    try simp only [Act.put, List.setIfInBounds_toArray, List.set_cons_zero, List.set_cons_succ]
    refine' wpAnyH_take (i := 8) (oi := ⟨some 13, _, _, _, _, _⟩) (v := _) rfl (by kernel_rfl) (by kernel_rfl) (by kernel_rfl) (fun _ _ _ h => h) (Or.inl ⟨by rfl, ?y8q⟩) (Keeps.refl _) ?r8q
    case y8q => (intro w' hSw; have q0 := hSw _ _ a3; go_simp; try rfl)
    try simp only [Act.put, List.setIfInBounds_toArray, List.set_cons_zero, List.set_cons_succ]
    refine' wpAnyH_take (i := 10) (oi := ⟨some 15, _, _, _, _, _⟩) (v := _) rfl (by kernel_rfl) (by kernel_rfl) (by kernel_rfl) (fun _ _ _ h => h) (Or.inl ⟨by rfl, ?y10q⟩) (Keeps.refl _) ?r10q
    case y10q => (intro w' hSw; go_simp; try rfl)
    try simp only [Act.put, List.setIfInBounds_toArray, List.set_cons_zero, List.set_cons_succ]
    refine' wpAnyH_take (i := 11) (oi := ⟨some 16, _, _, _, _, _⟩) (v := .agg (uqs x.V)) rfl (by kernel_rfl) (by kernel_rfl) (by kernel_rfl) (fun _ _ _ h => h) (yieldsIf_load_mid (by rfl) 27 _ rfl w.heap.size 4 rfl (x.V.map uq) _ (fun w' hSw => Keeps.range ar hSw) Try.underlying27 rfl (by rw [info_vec, List.length_map, hV])) (Keeps.refl _) ?r11q
    try simp only [Act.put, List.setIfInBounds_toArray, List.set_cons_zero, List.set_cons_succ]
    refine' wpAnyH_take (i := 13) (oi := ⟨some 18, _, _, _, _, _⟩) (v := _) rfl (by kernel_rfl) (by kernel_rfl) (by kernel_rfl) (fun _ _ _ h => h) (Or.inl ⟨by rfl, ?y13q⟩) (Keeps.refl _) ?r13q
    case y13q => (intro w' hSw; go_simp; try rfl)
    try simp only [Act.put, List.setIfInBounds_toArray, List.set_cons_zero, List.set_cons_succ]
    refine' wpAnyH_take (i := 14) (oi := ⟨some 19, _, _, _, _, _⟩) (v := _) rfl (by kernel_rfl) (by kernel_rfl) (by kernel_rfl) (fun _ _ _ h => h) (Or.inl ⟨by rfl, ?y14q⟩) (Keeps.refl _) ?r14q
    case y14q => (intro w' hSw; have q0 := hSw _ _ a20; go_simp; try rfl)
    try simp only [Act.put, List.setIfInBounds_toArray, List.set_cons_zero, List.set_cons_succ]
    refine' wpAnyH_take (i := 15) (oi := ⟨some 20, _, _, _, _, _⟩) (v := _) rfl (by kernel_rfl) (by kernel_rfl) (by kernel_rfl) (fun _ _ _ h => h) (Or.inl ⟨by rfl, ?y15q⟩) (Keeps.refl _) ?r15q
    case y15q => (intro w' hSw; go_simp; try rfl)
    try simp only [Act.put, List.setIfInBounds_toArray, List.set_cons_zero, List.set_cons_succ]
    refine' wpAnyH_take (i := 16) (oi := ⟨some 21, _, _, _, _, _⟩) (v := _) rfl (by kernel_rfl) (by kernel_rfl) (by kernel_rfl) (fun _ _ _ h => h) (Or.inl ⟨by rfl, ?y16q⟩) (Keeps.refl _) ?r16q
    case y16q => (intro w' hSw; go_simp; try rfl)
    try simp only [Act.put, List.setIfInBounds_toArray, List.set_cons_zero, List.set_cons_succ]
    refine held_two (i := 2) (j := 5) (by kernel_rfl) rfl rfl ?kA ?kB
    case kA =>
      intro K hK
      go_simp
      refine (refDot_any r x.id.2 Z0 hr255 hc64).mono ?_
      rintro e Z2 ⟨v7, rfl, ho7, hb7⟩
      obtain ⟨A7, n7, c7, rfl⟩ := ho7.shape
      refine hK.out _ _ (Keeps.of_below hb7) (fun _ => ?_)
      clear hK K
      try simp only [Act.put, List.setIfInBounds_toArray, List.set_cons_zero, List.set_cons_succ]
      obtain ⟨cB, Z5, hcv, hb5, _, _, _, hslT⟩ := conv_bytes x.topic Z2
      have k5 := hb7.trans (hb5.mono hb7.size)
      refine held_one (i := 5) (by kernel_rfl) rfl (fun Kq5 hK => ?_)
      go_simp
      refine hK.out _ _ (Keeps.of_below k5) (fun _ => ?_)
      clear hK Kq5
      try simp only [Act.put, List.setIfInBounds_toArray, List.set_cons_zero, List.set_cons_succ]
      replace ho7 := ho7.below hb5 (Nat.le_refl _)
      refine held_one (i := 6) (by kernel_rfl) rfl (fun Kq6 hK => ?_)
      go_simp
      refine (refBlob_any _ x.topic.data.toList Z5 hslT (by omega)).mono ?_
      rintro e Z6 ⟨v11, rfl, ho11, hb11⟩
      obtain ⟨A11, n11, c11, rfl⟩ := ho11.shape
      have k6 := k5.trans (hb11.mono k5.size)
      refine hK.out _ _ (Keeps.of_below k6) (fun _ => ?_)
      clear hK Kq6
      try simp only [Act.put, List.setIfInBounds_toArray, List.set_cons_zero, List.set_cons_succ]
      refine held_one (i := 9) (by kernel_rfl) rfl (fun Kq9 hK => ?_)
      go_simp
      refine (refBlob_any _ x.P Z6 (by have := (hX0'.below k6).pl; rwa [hpl] at this) (by omega)).mono ?_
      rintro e Z9 ⟨v14, rfl, ho14, hb14⟩
      obtain ⟨A14, n14, c14, rfl⟩ := ho14.shape
      have k9 := k6.trans (hb14.mono k6.size)
      refine hK.out _ _ (Keeps.of_below k9) (fun _ => ?_)
      clear hK Kq9
      try simp only [Act.put, List.setIfInBounds_toArray, List.set_cons_zero, List.set_cons_succ]
      refine held_one (i := 12) (by kernel_rfl) rfl (fun Kq12 hK => ?_)
      go_simp
      refine (refVector_any (uqs x.V) x.V Z9 (vec_of x.V hV hlt)).mono ?_
      rintro e Z12 ⟨v17, rfl, ho17, hb17⟩
      obtain ⟨A17, n17, c17, rfl⟩ := ho17.shape
      have k12 := k9.trans (hb17.mono k9.size)
      refine hK.out _ _ (Keeps.of_below k12) (fun _ => ?_)
      clear hK Kq12
      try simp only [Act.put, List.setIfInBounds_toArray, List.set_cons_zero, List.set_cons_succ]
      refine held_one (i := 17) (by kernel_rfl) rfl (fun Kq17 hK => ?_)
      go_simp
      refine (refPut_any x.T.length 2 Z12 (by omega) (by omega)).mono ?_
      rintro e Z17 ⟨v22, rfl, ho22, hb22⟩
      obtain ⟨A22, n22, c22, rfl⟩ := ho22.shape
      have k17 := k12.trans (hb22.mono k12.size)
      refine hK.out _ _ (Keeps.of_below k17) (fun _ => ?_)
      clear hK Kq17
      try simp only [Act.put, List.setIfInBounds_toArray, List.set_cons_zero, List.set_cons_succ]
      have hall : OwnAll Z17 (w.heap.size + 1) #[.slice A7 n7 c7, .slice A11 n11 c11, .slice A14 n14 c14, .slice A17 n17 c17, .slice A22 n22 c22].toList [beB 1 r ++ beB 8 x.id.2, beB 2 x.topic.data.toList.length ++ x.topic.data.toList, beB 2 x.P.length ++ x.P, vecB x.V, beB 2 x.T.length] :=
        ⟨((((ho7.below hb11 (Nat.le_refl _)).below hb14 (Nat.le_refl _)).below hb17 (Nat.le_refl _)).below hb22 (Nat.le_refl _)).mono (by first | omega | exact Nat.le_refl _), (((ho11.below hb14 (Nat.le_refl _)).below hb17 (Nat.le_refl _)).below hb22 (Nat.le_refl _)).mono (by have := k5.size; omega), ((ho14.below hb17 (Nat.le_refl _)).below hb22 (Nat.le_refl _)).mono (by have := k6.size; omega), (ho17.below hb22 (Nat.le_refl _)).mono (by have := k9.size; omega), ho22.mono (by have := k12.size; omega), trivial⟩
      have hol := OL.new (B := w.heap.size + 1) (C := #[.slice A7 n7 c7, .slice A11 n11 c11, .slice A14 n14 c14, .slice A17 n17 c17, .slice A22 n22 c22]) 5 (by have := k17.size; omega) hall rfl (by omega)
      have k18 := k17.alloc k17.size (.cells #[.slice A7 n7 c7, .slice A11 n11 c11, .slice A14 n14 c14, .slice A17 n17 c17, .slice A22 n22 c22] 25)
      refine held_one (i := 18) (by kernel_rfl) rfl (fun Kq18 hK => ?_)
      go_simp
      refine hK.out _ _ (Keeps.of_below k18) (fun _ => ?_)
      clear hK Kq18
      try simp only [Act.put, List.setIfInBounds_toArray, List.set_cons_zero, List.set_cons_succ]
      refine' wpAnyH_take (i := 19) (oi := ⟨some 3, _, _, _, _, _⟩) (v := _) rfl (by kernel_rfl) (by kernel_rfl) (by kernel_rfl) (fun _ _ _ h => h) (Or.inl ⟨by rfl, ?y19a⟩) (Keeps.of_below k18) ?r19a
      case y19a => (intro w' hSw; go_simp; try rfl)
      try simp only [Act.put, List.setIfInBounds_toArray, List.set_cons_zero, List.set_cons_succ]
      refine wpAnyH_done (by kernel_rfl) ?_ _
      go_wp2_with fail
      go_meet
      exact ⟨hol, hdd.trans (k18.mono hdd.size)⟩
    case kB =>
      intro K hK
      obtain ⟨cB, Z2, hcv, hb5, _, _, _, hslT0⟩ := conv_bytes x.topic Z0
      go_simp
      refine hK.out _ _ (Keeps.of_below hb5) (fun _ => ?_)
      clear hK K
      try simp only [Act.put, List.setIfInBounds_toArray, List.set_cons_zero, List.set_cons_succ]
      refine held_one (i := 2) (by kernel_rfl) rfl (fun K hK => ?_)
      go_simp
      refine (refDot_any r x.id.2 Z2 hr255 hc64).mono ?_
      rintro e Z5 ⟨v7, rfl, ho7, hb7⟩
      obtain ⟨A7, n7, c7, rfl⟩ := ho7.shape
      have k5 := hb5.trans (hb7.mono hb5.size)
      have hslT := hslT0.below hb7
      rw [hz1] at hslT
      refine hK.out _ _ (Keeps.of_below k5) (fun _ => ?_)
      clear hK K
      try simp only [Act.put, List.setIfInBounds_toArray, List.set_cons_zero, List.set_cons_succ]
      refine held_one (i := 6) (by kernel_rfl) rfl (fun Kq6 hK => ?_)
      go_simp
      refine (refBlob_any _ x.topic.data.toList Z5 hslT (by omega)).mono ?_
      rintro e Z6 ⟨v11, rfl, ho11, hb11⟩
      obtain ⟨A11, n11, c11, rfl⟩ := ho11.shape
      have k6 := k5.trans (hb11.mono k5.size)
      refine hK.out _ _ (Keeps.of_below k6) (fun _ => ?_)
      clear hK Kq6
      try simp only [Act.put, List.setIfInBounds_toArray, List.set_cons_zero, List.set_cons_succ]
      refine held_one (i := 9) (by kernel_rfl) rfl (fun Kq9 hK => ?_)
      go_simp
      refine (refBlob_any _ x.P Z6 (by have := (hX0'.below k6).pl; rwa [hpl] at this) (by omega)).mono ?_
      rintro e Z9 ⟨v14, rfl, ho14, hb14⟩
      obtain ⟨A14, n14, c14, rfl⟩ := ho14.shape
      have k9 := k6.trans (hb14.mono k6.size)
      refine hK.out _ _ (Keeps.of_below k9) (fun _ => ?_)
      clear hK Kq9
      try simp only [Act.put, List.setIfInBounds_toArray, List.set_cons_zero, List.set_cons_succ]
      refine held_one (i := 12) (by kernel_rfl) rfl (fun Kq12 hK => ?_)
      go_simp
      refine (refVector_any (uqs x.V) x.V Z9 (vec_of x.V hV hlt)).mono ?_
      rintro e Z12 ⟨v17, rfl, ho17, hb17⟩
      obtain ⟨A17, n17, c17, rfl⟩ := ho17.shape
      have k12 := k9.trans (hb17.mono k9.size)
      refine hK.out _ _ (Keeps.of_below k12) (fun _ => ?_)
      clear hK Kq12
      try simp only [Act.put, List.setIfInBounds_toArray, List.set_cons_zero, List.set_cons_succ]
      refine held_one (i := 17) (by kernel_rfl) rfl (fun Kq17 hK => ?_)
      go_simp
      refine (refPut_any x.T.length 2 Z12 (by omega) (by omega)).mono ?_
      rintro e Z17 ⟨v22, rfl, ho22, hb22⟩
      obtain ⟨A22, n22, c22, rfl⟩ := ho22.shape
      have k17 := k12.trans (hb22.mono k12.size)
      refine hK.out _ _ (Keeps.of_below k17) (fun _ => ?_)
      clear hK Kq17
      try simp only [Act.put, List.setIfInBounds_toArray, List.set_cons_zero, List.set_cons_succ]
      have hall : OwnAll Z17 (w.heap.size + 1) #[.slice A7 n7 c7, .slice A11 n11 c11, .slice A14 n14 c14, .slice A17 n17 c17, .slice A22 n22 c22].toList [beB 1 r ++ beB 8 x.id.2, beB 2 x.topic.data.toList.length ++ x.topic.data.toList, beB 2 x.P.length ++ x.P, vecB x.V, beB 2 x.T.length] :=
        ⟨((((ho7.below hb11 (Nat.le_refl _)).below hb14 (Nat.le_refl _)).below hb17 (Nat.le_refl _)).below hb22 (Nat.le_refl _)).mono (by first | omega | exact Nat.le_refl _), (((ho11.below hb14 (Nat.le_refl _)).below hb17 (Nat.le_refl _)).below hb22 (Nat.le_refl _)).mono (by have := k5.size; omega), ((ho14.below hb17 (Nat.le_refl _)).below hb22 (Nat.le_refl _)).mono (by have := k6.size; omega), (ho17.below hb22 (Nat.le_refl _)).mono (by have := k9.size; omega), ho22.mono (by have := k12.size; omega), trivial⟩
      have hol := OL.new (B := w.heap.size + 1) (C := #[.slice A7 n7 c7, .slice A11 n11 c11, .slice A14 n14 c14, .slice A17 n17 c17, .slice A22 n22 c22]) 5 (by have := k17.size; omega) hall rfl (by omega)
      have k18 := k17.alloc k17.size (.cells #[.slice A7 n7 c7, .slice A11 n11 c11, .slice A14 n14 c14, .slice A17 n17 c17, .slice A22 n22 c22] 25)
      refine held_one (i := 18) (by kernel_rfl) rfl (fun Kq18 hK => ?_)
      go_simp
      refine hK.out _ _ (Keeps.of_below k18) (fun _ => ?_)
      clear hK Kq18
      try simp only [Act.put, List.setIfInBounds_toArray, List.set_cons_zero, List.set_cons_succ]
      refine' wpAnyH_take (i := 19) (oi := ⟨some 3, _, _, _, _, _⟩) (v := _) rfl (by kernel_rfl) (by kernel_rfl) (by kernel_rfl) (fun _ _ _ h => h) (Or.inl ⟨by rfl, ?y19b⟩) (Keeps.of_below k18) ?r19b
      case y19b => (intro w' hSw; go_simp; try rfl)
      try simp only [Act.put, List.setIfInBounds_toArray, List.set_cons_zero, List.set_cons_succ]
      refine wpAnyH_done (by kernel_rfl) ?_ _
      go_wp2_with fail
      go_meet
      exact ⟨hol, hdd.trans (k18.mono hdd.size)⟩
  case rest =>
    obtain ⟨hol, hbc⟩ := hcut
    have a20c := ev_20 (hB0.below hbc hB0.lt) hV
    have hBc := hB0.below hbc hB0.lt
    have hbw := hb0.trans (hbc.mono hb0.size)
    obtain ⟨i0, hi, hz0', hz1', hz2'⟩ := info_parts info_sl
    change OL wc (w.heap.size + 1) u3 (headL x r) at hol
    have hol0 : OL wc (w.heap.size + 1) u3 (lsTo x r 0) := by unfold lsTo; simpa using hol
    have HXX := Lib.hid hX0
    have HBW0 := Lib.hid hb0
    have HR := Lib.hid hr
    clear hol hbc a0 a1 a2 a3 a20 ar a20c hX0 hB0 hb0 hr
    go_wp2
    go_loopw [3, 4] (fun v z wr => ∃ i : Nat, z = .int .i64 (i : Int) ∧ i ≤ x.T.length ∧ OL wr (w.heap.size + 1) v (lsTo x r i) ∧ Blk wr w.heap.size 30 (evc x) ∧ Below w.heap.size w wr) (fun _ z _ => x.T.length - (intOf z).toNat)
    case atStart => exact ⟨0, rfl, Nat.zero_le _, hol0, hBc, hbw⟩
    case round =>
      clear hol0 hBc hbw
      obtain ⟨i, rfl, hi', hol, hB, hb⟩ := hrel
      have a20 := ev_20 hB hV
      rw [hto] at a20
      by_cases hlt2 : i < x.T.length
      · obtain ⟨b, o, eA, f0, f1, f2⟩ := (show Se w (.slice At x.T.length ct) x.T by rw [← hto]; exact HXW.out.to).at_ i hlt2
        subst eA
        have hbw' : b < w.heap.size := World.block_lt_of_cell? w _ f0
        have hbB : b < w.heap.size + 1 := by omega
        obtain ⟨t, ht, HTE⟩ : ∃ t, x.T[i] = t ∧ Hid (x.T[i] = t) := ⟨_, rfl, Lib.hid rfl⟩
        have h1 := HTO.out.2 i hlt2
        rw [ht] at f0 f1 f2 h1
        obtain ⟨r2, hr2, hr2l⟩ := nat_of h1.1
        have hc2 : t.1.2 < 18446744073709551616 := by have := h1.1.2.2.2; unfold top at this; omega
        have hn2 := name_le h1.2.1
        have htl2 := str_len t.2
        have HDT := Lib.hid (show dotB t.1 = beB 1 r2 ++ beB 8 t.1.2 by rw [dotB, hr2]; rfl)
        rw [hr2] at f0
        have e0 := (hb.cell (p := ⟨b, o + i * 3, none⟩) hbw').trans f0
        have e1 := (hb.cell (p := ⟨b, o + i * 3 + 1, none⟩) hbw').trans f1
        have e2 := (hb.cell (p := ⟨b, o + i * 3 + 2, none⟩) hbw').trans f2
        have HLT := Lib.hid hlt2
        have hi60 : i < 1024 := by omega
        clear f0 f1 f2 ht h1 hr2
        obtain ⟨Al, nl, cl, rfl⟩ := hol.shape
        go_upto_region 5 with fail
        refine wp_region_held_drew (S := fun X => Below (w.heap.size + 1) wr.drew X) hfo (Below.refl _ _) (fun hS0 => ?_)
        have hol2 := hol.below (w' := wr.drew) ((Below.refl _ _).drew)
        have hB2 : Blk wr.drew w.heap.size 30 (evc x) := hB
        have hbw2 : Below w.heap.size w wr.drew := hb.drew
        replace e0 : wr.drew.cell? ⟨b, o + i * 3, none⟩ = some (.int .i64 (r2 : Int)) := e0
        replace e1 : wr.drew.cell? ⟨b, o + i * 3 + 1, none⟩ = some (.int .u64 (t.1.2 : Int)) := e1
        replace e2 : wr.drew.cell? ⟨b, o + i * 3 + 2, none⟩ = some (.string t.2) := e2
        replace a20 : wr.drew.cell? ⟨w.heap.size, 20, none⟩ = some (.slice (some ⟨b, o, none⟩) x.T.length ct) := a20
        have hBY : w.heap.size + 1 ≤ wr.drew.heap.size := hB.lt
        clear hol hB hb hS0
        generalize wr.drew = Y0 at hol2 hB2 hbw2 e0 e1 e2 a20 hBY ⊢
        have HOL := Lib.hid hol2
        have HBE := Lib.hid hB2
        have HBW := Lib.hid hbw2
        clear hol2 hB2 hbw2
        refine' wpAnyH_take (i := 0) (oi := ⟨some 31, _, _, _, _, _⟩) (v := _) rfl (by kernel_rfl) (by kernel_rfl) (by kernel_rfl) (fun _ _ _ h => h) (Or.inl ⟨by rfl, ?y0p⟩) (Below.refl _ _) ?r0p
        case y0p => (intro w' hSw; go_simp; try rfl)
        try simp only [Act.put, List.setIfInBounds_toArray, List.set_cons_zero, List.set_cons_succ]
        refine' wpAnyH_take (i := 1) (oi := ⟨some 32, _, _, _, _, _⟩) (v := _) rfl (by kernel_rfl) (by kernel_rfl) (by kernel_rfl) (fun _ _ _ h => h) (Or.inl ⟨by rfl, ?y1p⟩) (Below.refl _ _) ?r1p
        case y1p => (intro w' hSw; go_simp; try rfl)
        try simp only [Act.put, List.setIfInBounds_toArray, List.set_cons_zero, List.set_cons_succ]
        refine' wpAnyH_take (i := 2) (oi := ⟨some 33, _, _, _, _, _⟩) (v := _) rfl (by kernel_rfl) (by kernel_rfl) (by kernel_rfl) (fun _ _ _ h => h) (Or.inl ⟨by rfl, ?y2p⟩) (Below.refl _ _) ?r2p
        case y2p => (intro w' hSw; have q9 := (hSw.cell (p := ⟨w.heap.size, 20, none⟩) (Nat.lt_succ_self _)).trans a20; go_simp; try rfl)
        try simp only [Act.put, List.setIfInBounds_toArray, List.set_cons_zero, List.set_cons_succ]
        refine' wpAnyH_take (i := 3) (oi := ⟨some 34, _, _, _, _, _⟩) (v := _) rfl (by kernel_rfl) (by kernel_rfl) (by kernel_rfl) (fun _ _ _ h => h) (Or.inl ⟨by rfl, ?y3p⟩) (Below.refl _ _) ?r3p
        case y3p => (intro w' hSw; go_simp; try rfl)
        try simp only [Act.put, List.setIfInBounds_toArray, List.set_cons_zero, List.set_cons_succ]
        refine' wpAnyH_take (i := 4) (oi := ⟨some 35, _, _, _, _, _⟩) (v := _) rfl (by kernel_rfl) (by kernel_rfl) (by kernel_rfl) (fun _ _ _ h => h) (Or.inl ⟨by rfl, ?y4p⟩) (Below.refl _ _) ?r4p
        case y4p => (intro w' hSw; go_simp; try rfl)
        try simp only [Act.put, List.setIfInBounds_toArray, List.set_cons_zero, List.set_cons_succ]
        refine' wpAnyH_take (i := 5) (oi := ⟨some 36, _, _, _, _, _⟩) (v := _) rfl (by kernel_rfl) (by kernel_rfl) (by kernel_rfl) (fun _ _ _ h => h) (Or.inl ⟨by rfl, ?y5p⟩) (Below.refl _ _) ?r5p
        case y5p => (intro w' hSw; go_simp; try rfl)
        try simp only [Act.put, List.setIfInBounds_toArray, List.set_cons_zero, List.set_cons_succ]
        refine' wpAnyH_take (i := 6) (oi := ⟨some 37, _, _, _, _, _⟩) (v := _) rfl (by kernel_rfl) (by kernel_rfl) (by kernel_rfl) (fun _ _ _ h => h) (Or.inl ⟨by rfl, ?y6p⟩) (Below.refl _ _) ?r6p
        case y6p => (intro w' hSw; have q0 := (hSw.cell (p := ⟨b, o + i * 3, none⟩) hbB).trans e0; have q1 := (hSw.cell (p := ⟨b, o + i * 3 + 1, none⟩) hbB).trans e1; go_simp; try rfl)
        try simp only [Act.put, List.setIfInBounds_toArray, List.set_cons_zero, List.set_cons_succ]
        refine' wpAnyH_take (i := 8) (oi := ⟨some 39, _, _, _, _, _⟩) (v := _) rfl (by kernel_rfl) (by kernel_rfl) (by kernel_rfl) (fun _ _ _ h => h) (Or.inl ⟨by rfl, ?y8p⟩) (Below.refl _ _) ?r8p
        case y8p => (intro w' hSw; go_simp; try rfl)
        try simp only [Act.put, List.setIfInBounds_toArray, List.set_cons_zero, List.set_cons_succ]
        refine' wpAnyH_take (i := 9) (oi := ⟨some 40, _, _, _, _, _⟩) (v := _) rfl (by kernel_rfl) (by kernel_rfl) (by kernel_rfl) (fun _ _ _ h => h) (Or.inl ⟨by rfl, ?y9p⟩) (Below.refl _ _) ?r9p
        case y9p => (intro w' hSw; have q9 := (hSw.cell (p := ⟨w.heap.size, 20, none⟩) (Nat.lt_succ_self _)).trans a20; go_simp; try rfl)
        try simp only [Act.put, List.setIfInBounds_toArray, List.set_cons_zero, List.set_cons_succ]
        refine' wpAnyH_take (i := 10) (oi := ⟨some 41, _, _, _, _, _⟩) (v := _) rfl (by kernel_rfl) (by kernel_rfl) (by kernel_rfl) (fun _ _ _ h => h) (Or.inl ⟨by rfl, ?y10p⟩) (Below.refl _ _) ?r10p
        case y10p => (intro w' hSw; go_simp; try rfl)
        try simp only [Act.put, List.setIfInBounds_toArray, List.set_cons_zero, List.set_cons_succ]
        refine' wpAnyH_take (i := 11) (oi := ⟨some 42, _, _, _, _, _⟩) (v := _) rfl (by kernel_rfl) (by kernel_rfl) (by kernel_rfl) (fun _ _ _ h => h) (Or.inl ⟨by rfl, ?y11p⟩) (Below.refl _ _) ?r11p
        case y11p => (intro w' hSw; go_simp; try rfl)
        try simp only [Act.put, List.setIfInBounds_toArray, List.set_cons_zero, List.set_cons_succ]
        refine' wpAnyH_take (i := 12) (oi := ⟨some 43, _, _, _, _, _⟩) (v := _) rfl (by kernel_rfl) (by kernel_rfl) (by kernel_rfl) (fun _ _ _ h => h) (Or.inl ⟨by rfl, ?y12p⟩) (Below.refl _ _) ?r12p
        case y12p => (intro w' hSw; go_simp; try rfl)
        try simp only [Act.put, List.setIfInBounds_toArray, List.set_cons_zero, List.set_cons_succ]
        refine' wpAnyH_take (i := 13) (oi := ⟨some 44, _, _, _, _, _⟩) (v := _) rfl (by kernel_rfl) (by kernel_rfl) (by kernel_rfl) (fun _ _ _ h => h) (Or.inl ⟨by rfl, ?y13p⟩) (Below.refl _ _) ?r13p
        case y13p => (intro w' hSw; have q2 := (hSw.cell (p := ⟨b, o + i * 3 + 2, none⟩) hbB).trans e2; go_simp; try rfl)
        try simp only [Act.put, List.setIfInBounds_toArray, List.set_cons_zero, List.set_cons_succ]
        refine held_two (i := 7) (j := 14) (by kernel_rfl) rfl rfl ?kC ?kD
        case kC =>
          intro K hK
          go_simp
          refine (refDot_any r2 t.1.2 Y0 hr2l hc2).mono ?_
          rintro e Y2 ⟨v7, rfl, ho7, hb7⟩
          obtain ⟨A7, n7, c7, rfl⟩ := ho7.shape
          have k2 := (Below.refl (w.heap.size + 1) Y0).trans (hb7.mono hBY)
          refine hK.out _ _ k2 (fun _ => ?_)
          clear hK K
          try simp only [Act.put, List.setIfInBounds_toArray, List.set_cons_zero, List.set_cons_succ]
          obtain ⟨cB, Y5, hcv, hb5, _, _, _, hslT⟩ := conv_bytes t.2 Y2
          have k5 := k2.trans (hb5.mono (Nat.le_trans hBY k2.size))
          have H7 := Lib.hid hBY
          have HOL5 := Lib.hid ((HOL.out.below hb7).below hb5)
          refine held_one (i := 14) (by kernel_rfl) rfl (fun K hK => ?_)
          go_simp
          refine hK.out _ _ k5 (fun _ => ?_)
          clear hK K
          try simp only [Act.put, List.setIfInBounds_toArray, List.set_cons_zero, List.set_cons_succ]
          replace ho7 := ho7.below hb5 (Nat.le_refl _)
          refine held_one (i := 15) (by kernel_rfl) rfl (fun Kp15 hK => ?_)
          go_simp
          refine (refBlob_any _ t.2.data.toList Y5 hslT (by omega)).mono ?_
          rintro e Y6 ⟨v11, rfl, ho11, hb11⟩
          obtain ⟨A11, n11, c11, rfl⟩ := ho11.shape
          have k6 := k5.trans (hb11.mono (Nat.le_trans hBY k5.size))
          refine hK.out _ _ k6 (fun _ => ?_)
          clear hK Kp15
          try simp only [Act.put, List.setIfInBounds_toArray, List.set_cons_zero, List.set_cons_succ]
          have hall : OwnAll Y6 (w.heap.size + 1) #[.slice A7 n7 c7, .slice A11 n11 c11].toList [dotB t.1, blobB t.2.data.toList] := ⟨by rw [HDT.out]; exact (ho7.below hb11 (Nat.le_refl _)).mono H7.out, ho11.mono (Nat.le_trans hBY k5.size), trivial⟩
          have k16 := k6.alloc (Nat.le_trans hBY k6.size) (.cells #[.slice A7 n7 c7, .slice A11 n11 c11] 25)
          have hnb := Blk.new Y6 25 #[.slice A7 n7 c7, .slice A11 n11 c11]
          have hol6 := (HOL5.out.below hb11).below ((Below.refl _ _).alloc (Nat.le_refl _) (.cells #[.slice A7 n7 c7, .slice A11 n11 c11] 25))
          have hall2 := hall.below ((Below.refl _ _).alloc (Nat.le_refl _) (.cells #[.slice A7 n7 c7, .slice A11 n11 c11] 25))
          refine held_one (i := 16) (by kernel_rfl) rfl (fun Kp16 hK => ?_)
          go_simp
          refine hK.out _ _ k16 (fun _ => ?_)
          clear hK Kp16
          try simp only [Act.put, List.setIfInBounds_toArray, List.set_cons_zero, List.set_cons_succ]
          refine held_one (i := 17) (by kernel_rfl) rfl (fun Kp17 hK => ?_)
          refine step_append_ol _ rfl _ _ 67 rfl (w.heap.size + 1) i0 Try.underlying67 hi hz0' hz1' hz2' _ (lsTo x r i) rfl hol6 Y6.heap.size 2 rfl #[.slice A7 n7 c7, .slice A11 n11 c11] hnb _ hall2 rfl (by have := lsTo_length x r i; omega) (Nat.le_trans hBY k16.size) ?_
          intro v17 Y17 hol17 hb17
          have k17 := k16.trans hb17
          refine hK.out _ _ k17 (fun _ => ?_)
          clear hK Kp17
          try simp only [Act.put, List.setIfInBounds_toArray, List.set_cons_zero, List.set_cons_succ]
          refine' wpAnyH_take (i := 18) (oi := ⟨some 3, _, _, _, _, _⟩) (v := _) rfl (by kernel_rfl) (by kernel_rfl) (by kernel_rfl) (fun _ _ _ h => h) (Or.inl ⟨by rfl, ?y18c⟩) k17 ?r18c
          case y18c => (intro w' hSw; go_simp; try rfl)
          try simp only [Act.put, List.setIfInBounds_toArray, List.set_cons_zero, List.set_cons_succ]
          refine wpAnyH_done (by kernel_rfl) ?_ _
          have hB17 := HBE.out.below k17 (Nat.lt_succ_self _)
          have hw17 := HBW.out.trans (k17.mono (Nat.le_succ _))
          rw [← HTE.out, ← lsTo_next x r i HLT.out] at hol17
          clear hall hall2 hol6 hnb ho7 ho11
          go_wp2
          exact ⟨⟨i + 1, by go_num, HLT.out, hol17, hB17, hw17⟩, by simp [intOf]; have := HLT.out; omega⟩
        case kD =>
          intro K hK
          obtain ⟨cB, Y2, hcv, hb5, _, _, _, hslT0⟩ := conv_bytes t.2 Y0
          have k2 := (Below.refl (w.heap.size + 1) Y0).trans (hb5.mono hBY)
          go_simp
          refine hK.out _ _ k2 (fun _ => ?_)
          clear hK K
          try simp only [Act.put, List.setIfInBounds_toArray, List.set_cons_zero, List.set_cons_succ]
          refine held_one (i := 7) (by kernel_rfl) rfl (fun K hK => ?_)
          go_simp
          refine (refDot_any r2 t.1.2 Y2 hr2l hc2).mono ?_
          rintro e Y5 ⟨v7, rfl, ho7, hb7⟩
          obtain ⟨A7, n7, c7, rfl⟩ := ho7.shape
          have k5 := k2.trans (hb7.mono (Nat.le_trans hBY k2.size))
          have H7 := Lib.hid (Nat.le_trans hBY k2.size)
          have HOL5 := Lib.hid ((HOL.out.below hb5).below hb7)
          have hslT := hslT0.below hb7
          refine hK.out _ _ k5 (fun _ => ?_)
          clear hK K
          try simp only [Act.put, List.setIfInBounds_toArray, List.set_cons_zero, List.set_cons_succ]
          refine held_one (i := 15) (by kernel_rfl) rfl (fun Kp15 hK => ?_)
          go_simp
          refine (refBlob_any _ t.2.data.toList Y5 hslT (by omega)).mono ?_
          rintro e Y6 ⟨v11, rfl, ho11, hb11⟩
          obtain ⟨A11, n11, c11, rfl⟩ := ho11.shape
          have k6 := k5.trans (hb11.mono (Nat.le_trans hBY k5.size))
          refine hK.out _ _ k6 (fun _ => ?_)
          clear hK Kp15
          try simp only [Act.put, List.setIfInBounds_toArray, List.set_cons_zero, List.set_cons_succ]
          have hall : OwnAll Y6 (w.heap.size + 1) #[.slice A7 n7 c7, .slice A11 n11 c11].toList [dotB t.1, blobB t.2.data.toList] := ⟨by rw [HDT.out]; exact (ho7.below hb11 (Nat.le_refl _)).mono H7.out, ho11.mono (Nat.le_trans hBY k5.size), trivial⟩
          have k16 := k6.alloc (Nat.le_trans hBY k6.size) (.cells #[.slice A7 n7 c7, .slice A11 n11 c11] 25)
          have hnb := Blk.new Y6 25 #[.slice A7 n7 c7, .slice A11 n11 c11]
          have hol6 := (HOL5.out.below hb11).below ((Below.refl _ _).alloc (Nat.le_refl _) (.cells #[.slice A7 n7 c7, .slice A11 n11 c11] 25))
          have hall2 := hall.below ((Below.refl _ _).alloc (Nat.le_refl _) (.cells #[.slice A7 n7 c7, .slice A11 n11 c11] 25))
          refine held_one (i := 16) (by kernel_rfl) rfl (fun Kp16 hK => ?_)
          go_simp
          refine hK.out _ _ k16 (fun _ => ?_)
          clear hK Kp16
          try simp only [Act.put, List.setIfInBounds_toArray, List.set_cons_zero, List.set_cons_succ]
          refine held_one (i := 17) (by kernel_rfl) rfl (fun Kp17 hK => ?_)
          refine step_append_ol _ rfl _ _ 67 rfl (w.heap.size + 1) i0 Try.underlying67 hi hz0' hz1' hz2' _ (lsTo x r i) rfl hol6 Y6.heap.size 2 rfl #[.slice A7 n7 c7, .slice A11 n11 c11] hnb _ hall2 rfl (by have := lsTo_length x r i; omega) (Nat.le_trans hBY k16.size) ?_
          intro v17 Y17 hol17 hb17
          have k17 := k16.trans hb17
          refine hK.out _ _ k17 (fun _ => ?_)
          clear hK Kp17
          try simp only [Act.put, List.setIfInBounds_toArray, List.set_cons_zero, List.set_cons_succ]
          refine' wpAnyH_take (i := 18) (oi := ⟨some 3, _, _, _, _, _⟩) (v := _) rfl (by kernel_rfl) (by kernel_rfl) (by kernel_rfl) (fun _ _ _ h => h) (Or.inl ⟨by rfl, ?y18d⟩) k17 ?r18d
          case y18d => (intro w' hSw; go_simp; try rfl)
          try simp only [Act.put, List.setIfInBounds_toArray, List.set_cons_zero, List.set_cons_succ]
          refine wpAnyH_done (by kernel_rfl) ?_ _
          have hB17 := HBE.out.below k17 (Nat.lt_succ_self _)
          have hw17 := HBW.out.trans (k17.mono (Nat.le_succ _))
          rw [← HTE.out, ← lsTo_next x r i HLT.out] at hol17
          clear hall hall2 hol6 hnb ho7 ho11
          go_wp2
          exact ⟨⟨i + 1, by go_num, HLT.out, hol17, hB17, hw17⟩, by simp [intOf]; have := HLT.out; omega⟩
      · obtain rfl : i = x.T.length := by omega
        have hfl := lsTo_flat x r HR.out x.T.length
        rw [bytesTo_all] at hfl
        have hsls := hol.sls
        have hlen : (lsTo x r x.T.length).flatten.length ≤ 1000000 := by rw [lsTo_flat x r HR.out]; have := HBL.out x.T.length; omega
        have hln : (lsTo x r x.T.length).length ≤ 1000000 := by have := lsTo_length x r x.T.length; omega
        have HFL := Lib.hid hfl
        obtain ⟨Al, nl, cl, rfl⟩ := hol.shape
        clear hlt2 hi' hol hfl
        go_wp2_with (go_at_call 38; refine (refJoin_any _ _ _ hsls hlen hln).mono ?_; rintro e wj ⟨vj, rfl, hoj, hbj⟩)
        go_ret
        exact ⟨_, rfl, by rw [← HFL.out]; exact hoj.sl, hb.trans (hbj.mono hb.size)⟩
end Go.Proofs.Ytigepbklpiilpaa

/-
  The laws' do: Kind 1; as a whole.
-/
import Derived.Test.YtellbmghahgjfaaNfH
namespace Go.Proofs.Ytellbmghahgjfaa
open Go.RowKit Go.Maps
open NetM
set_option linter.unusedVariables false
set_option linter.unusedSimpArgs false
set_option maxRecDepth 20000
/-- A byte of a row of the call's own turned. -/
theorem Own.putB {w : World} {base g n c : Nat} {e : TypeId} {l : List UInt8} (h : Own w base e (.slice (some ⟨g, 0, none⟩) n c) l) (k : Nat) (b : UInt8) : Own (w.setCell ⟨g, k, none⟩ (bv b)) base e (.slice (some ⟨g, 0, none⟩) n c) (l.set k b) := by
  obtain rfl : n = l.length := h.sl.len
  have := (World.ownsRow.stored h k (bv b)).1
  unfold Own
  rw [List.length_set, List.map_set]
  exact this
theorem Own.byteAt_ {w : World} {base n c : Nat} {e : TypeId} {A : Option Addr} {l : List UInt8} (h : Own w base e (.slice A n c) l) (k : Nat) (hk : k < l.length) : ∃ g, A = some ⟨g, 0, none⟩ ∧ base ≤ g ∧ w.cell? ⟨g, k, none⟩ = some (.int .u8 (l[k].toNat : Int)) ∧ w.frozen? ⟨g, k, none⟩ = false ∧ g < w.heap.size := by
  have hn : n = l.length := h.sl.len
  rcases h.2 with ⟨e1, h0⟩ | ⟨g, cap, cur, e1, hg, hh, hnc, hm, hs, ht⟩
  · omega
  · injection e1 with a1 a2 a3
    have h' := h
    subst a1; subst hn
    refine ⟨g, rfl, hg, ?_, World.ownsRow.frozenAt h' k, (Array.getElem?_eq_some_iff.1 hh).1⟩
    rw [World.ownsRow.cellAt h' k (by omega), List.getElem?_map, List.getElem?_eq_getElem hk]
    rfl
theorem Sl.begin_ {w : World} {A : Option Addr} {m c : Nat} {L : List UInt8} (h : Sl w (.slice A m c) L) (a : Nat) (ha : a ≤ m) : Sl w (.slice A a c) (L.take a) := by
  obtain ⟨A', c', e, hc, hx⟩ := h
  injection e with e1 e2 e3
  subst e1 e3
  have hl : (L.take a).length = a := by rw [List.length_take]; omega
  refine ⟨A, c, by rw [hl], by omega, fun hn => ?_⟩
  rw [hl] at hn
  obtain ⟨b, o, e, hy⟩ := hx (by omega)
  exact ⟨b, o, e, fun j hj => by rw [hl] at hj; rw [hy j (by omega), List.getElem_take]⟩
/-- Both nets, and a block that is none of theirs. -/
structure TwoX (B : Nat) (W : World) (p b x : Nat) (E lv : Int) (V : List (Fl Pl)) (lr : Int) (R : List (Fl Pl)) (g : Nat) : Prop where
  nt : ∃ K G, Nt W p b E lv K V G ∧ ∀ i, G i → B ≤ i ∧ i ≠ g
  rf : ∃ s, Rn W x s E lr R B ∧ (∀ i, (sv s).ownBlock = some i → i ≠ g) ∧ ∀ f ∈ R, ∀ i, InB f.x.1 i → i ≠ g
  hp : B ≤ p
  hb : B ≤ b
  ne : ¬ Of3 p b x g
section
variable {w W W' Y Z : World} {B p b x g : Nat} {E lv lr : Int} {V R V' R' : List (Fl Pl)}
theorem TwoX.two (h : TwoX B W p b x E lv V lr R g) : Two B W p b x E lv V lr R := by
  obtain ⟨K, G, hn, hG⟩ := h.nt
  obtain ⟨s, hr, _⟩ := h.rf
  exact ⟨⟨K, G, hn, fun i hi => (hG i hi).1⟩, ⟨s, hr⟩, h.hp, h.hb⟩
theorem TwoX.keep (h : TwoX B W p b x E lv V lr R g) (k : Keep (fun i => i = g) W W') : TwoX B W' p b x E lv V lr R g := by
  obtain ⟨K, G, hn, hG⟩ := h.nt
  obtain ⟨s, hr, hs1, hs2⟩ := h.rf
  refine ⟨⟨K, G, hn.kept k (fun e => h.ne (.inl (.inl e.symm))) (fun e => h.ne (.inl (.inr e.symm))) fun i hi => (hG i hi).2, hG⟩, ⟨s, ⟨hr.blk.kept k (fun e => h.ne (.inr e.symm)), hr.own.keep fun i hi => k.block i (hr.own.lt i hi).2 (hs1 i hi), fun f hf => InB.sl (hr.by_ f hf) k (hs2 f hf), fun f hf i hi => ?_, hr.xb⟩, hs1, hs2⟩, h.hp, h.hb, h.ne⟩
  obtain ⟨hB, cs, m, hh⟩ := hr.inb f hf i hi
  exact ⟨hB, cs, m, (k.block i (Array.getElem?_eq_some_iff.1 hh).1 (hs2 f hf i hi)).trans hh⟩
theorem two_sendX (h : Two B Y p b x E lv V lr R) (hB : B ≤ Y.heap.size) (hYZ : Below Y.heap.size Y Z) (g : Nat) (hg : Y.heap.size ≤ g) (hgz : g < Z.heap.size) (hlo : lv ≤ 1000000000) (q : Pr) (A : Option Addr) (n c : Nat) (l : List UInt8) (hs : Sl Z (.slice A n c) l) :
    Calls Try.prog 17 #[.pointer (some ⟨p, 0, none⟩), .int .i64 q.1, .int .i64 q.2, .slice A n c] Z (NumE Z p b x fun c W' => ∃ lv' V', TwoX B W' p b x E lv' V' lr R g ∧ SendR E lv V q l c lv' V') := by
  have hne : ¬ Of3 p b x g := fun ho => by have := h.lt3 _ ho; omega
  obtain ⟨K, G, hn, hG⟩ := h.nt
  obtain ⟨s, hr⟩ := h.rf
  have hn' := hn.below hYZ
  have hr' := hr.below hYZ
  have hGY := hn.glt
  have hs1 : ∀ i, (sv s).ownBlock = some i → i ≠ g := fun i hi e => by have := (hr.own.lt i hi).2; omega
  have hs2 : ∀ f ∈ R, ∀ i, InB f.x.1 i → i ≠ g := fun f hf i hi e => by
    obtain ⟨_, cs, m, hh⟩ := hr.inb f hf i hi
    have := (Array.getElem?_eq_some_iff.1 hh).1
    omega
  have hturn : ∀ {lv' : Int} {V' : List (Fl Pl)} {W' : World}, Turn Z p b E lv' V' G W' → Keep (Of3 p b x) Z W' ∧ TwoX B W' p b x E lv' V' lr R g := fun {lv' V' W'} t => by
    obtain ⟨hk, K', G', hn2, hm⟩ := t
    have hZ := hYZ.size
    refine ⟨hk.mono fun i hi => .inl hi, ⟨K', G', hn2, fun i hi => ?_⟩, ⟨s, hr'.kept hk (hn'.px hr') hn'.offp, hs1, hs2⟩, h.hp, h.hb, hne⟩
    rcases hm i hi with h1 | h1
    · have := hG i h1
      have := hGY i h1
      omega
    · omega
  by_cases hm : MaySend E q l
  · refine (send_any hn' q _ l hs hm (by omega)).mono fun e w' he => ?_
    rcases he with ⟨h1, rfl, ht⟩ | ⟨h1, rfl, s, ht⟩
    · obtain ⟨k, t⟩ := hturn ht
      exact ⟨5, rfl, k, _, _, t, .inr (.inl ⟨hm, h1, rfl, rfl, rfl⟩)⟩
    · obtain ⟨k, t⟩ := hturn ht
      exact ⟨0, rfl, k, _, _, t, .inr (.inr ⟨hm, h1, rfl, rfl, s, rfl⟩)⟩
  · refine (send_bad hn' q _ l hs hm).mono fun e w' ⟨he, hb⟩ => ?_
    obtain ⟨k, t⟩ := hturn (Turn.same hn' hb)
    exact ⟨2, he, k, _, _, t, .inl ⟨hm, rfl, rfl, rfl⟩⟩
end
set_option maxHeartbeats 8000000 in
theorem do1 {w W : World} {p b x : Nat} {E lv : Int} {V R : List (Fl Pl)} (hW : Below w.heap.size w W) (h : Two w.heap.size W p b x E lv V lv R) (he : pv V = pv R) (hl0 : 0 ≤ lv) (hlo : lv ≤ 1000000) (q : Pr) (hz : q.1 ≤ 9223372036854775807) (A : Option Addr) (n c : Nat) (l : List UInt8) (hs : Sl w (.slice A l.length c) l) (hl : l.length ≤ 20000) :
    Calls Try.prog 15 #[.pointer (some ⟨p, 0, none⟩), .pointer (some ⟨x, 0, none⟩), .agg #[.int .i64 1, .int .i64 q.1, .int .i64 q.2, .slice A l.length c]] W (DoE w W p b x E lv) := by
  obtain ⟨iu, hu1, hu2, hu3, hu4⟩ := u8I
  have hfo : Try.prog.follows .mixedOrders = true := by kernel_rfl
  have hb1 : Below W.heap.size W (W.alloc (.cells #[.int .i64 1, .int .i64 q.1, .int .i64 q.2, .slice A l.length c] 39)) := (Below.refl _ _).alloc (Nat.le_refl _) _
  have hbx := Blk.new W 39 #[.int .i64 1, .int .i64 q.1, .int .i64 q.2, .slice A l.length c]
  have hlt := Lib.hid h.lt3
  have hY0 := h.below hb1
  have hWY := hW.trans (hb1.mono hW.size)
  have hV16 := h.few
  have hRl : R.length ≤ 100000 := by have := pv_lens he; omega
  have hge := Lib.hid h.ge3
  go_enter Try.func15, Try.ntmps15
  go_upto_region 1 with fail
  generalize W.alloc (.cells #[.int .i64 1, .int .i64 q.1, .int .i64 q.2, .slice A l.length c] 39) = Y at hb1 hbx hY0 hWY ⊢
  have HC := Lib.hid (show ∀ Z, Keep (Of3 p b x) Y Z → Z.cell? ⟨W.heap.size, 0, none⟩ = some (.int .i64 1) ∧ Z.cell? ⟨W.heap.size, 1, none⟩ = some (.int .i64 q.1) ∧ Z.cell? ⟨W.heap.size, 2, none⟩ = some (.int .i64 q.2) ∧ Z.cell? ⟨W.heap.size, 3, none⟩ = some (.slice A l.length c) from fun Z hZ => by
    have hf := hbx.kept hZ (fun hi => Nat.lt_irrefl _ (hlt.out _ hi))
    exact ⟨by rw [hf.cell]; rfl, by rw [hf.cell]; rfl, by rw [hf.cell]; rfl, by rw [hf.cell]; rfl⟩)
  have HSL := Lib.hid (show ∀ Z, Keep (Of3 p b x) Y Z → Sl Z (.slice A l.length c) l from fun Z hZ => hs.below (Keep.below hWY hZ hWY.size hge.out))
  have HKW := Lib.hid (show ∀ Z, Keep (Of3 p b x) Y Z → Keep (Of3 p b x) W Z from fun Z hZ => (Keep.of_below hb1).trans hZ (fun _ h => h) (fun _ _ h => h))
  have hB := hWY.size
  have hYW := hb1.size
  have z0 := (HC.out Y (Keep.refl _ _)).1
  clear hbx h hW hs hb1 hWY
  have z3 := (HC.out Y (Keep.refl _ _)).2.2.2
  have HSY := Lib.hid (HSL.out Y (Keep.refl _ _))
  have hl1 : (([] : List UInt8).length + l.length) ≤ 1000000000 := by simp; omega
  have hl2 : ((([] : List UInt8) ++ l).length + [(7 : UInt8)].length) ≤ 1000000000 := by simp; omega
  go_upto_region 4 with (first | (at_builtin; refine wpList_append_bytes Y rfl _ _ 37 rfl Y.heap.size 5 iu rfl hu1 hu2 hu3 hu4 (.slice none 0 0) [] rfl Own.nil _ l rfl HSY.out hl1 (Nat.le_refl _) ?_; intro v7 Z7 ho7 hb7; have HO7 := Lib.hid ho7; have hs7 : Y.heap.size ≤ (Z7.alloc (.cells #[.int .u8 7] 5)).heap.size := (by have := hb7.size; simp; omega); clear ho7) | (at_builtin; refine wpList_append_bytes _ rfl _ _ 37 rfl Y.heap.size 5 iu rfl hu1 hu2 hu3 hu4 v7 _ rfl (HO7.out.alloc _) _ [7] rfl (Sl.oneM Z7 5 7 7 rfl (0, 0)) hl2 hs7 ?_; intro v8 Z8 ho8 hb8))
  have hbY8 : Below Y.heap.size Y Z8 := (hb7.alloc hb7.size _).trans hb8
  obtain ⟨g, cap, rfl⟩ : ∃ g cap, v8 = .slice (some ⟨g, 0, none⟩) (l.length + 1) cap := by
    have hn8 : (([] ++ l) ++ [(7 : UInt8)]).length = l.length + 1 := by simp
    rcases ho8.2 with ⟨_, h0⟩ | ⟨g, cap, cur, e8, _⟩
    · rw [hn8] at h0; omega
    · exact ⟨g, cap, by rw [e8, hn8]⟩
  have hc8 : l.length + 1 ≤ cap := by
    obtain ⟨A', c', e', hc', _⟩ := ho8.sl
    injection e' with _ e2 e3
    omega
  have hgY : Y.heap.size ≤ g := (World.ownsRow.lt ho8 g rfl).1
  have hgz : g < Z8.heap.size := (World.ownsRow.lt ho8 g rfl).2
  have HO8 := Lib.hid (show Own Z8 Y.heap.size 5 (.slice (some ⟨g, 0, none⟩) (l.length + 1) cap) (l ++ [7]) from ho8)
  have HP8 := Lib.hid (show Sl Z8 (.slice (some ⟨g, 0, none⟩) l.length cap) l from by
    have := ho8.sl.begin_ l.length (by omega)
    rwa [List.nil_append, List.take_left] at this)
  have hk8 : Keep (Of3 p b x) Y Z8 := .of_below hbY8
  clear hb7 hb8 ho8 HO7 hs7 z3 z0 HSY hl1 hl2
  have hln1 : (l.length : Int) ≤ (l.length : Int) + 1 := by omega
  have hln2 : (l.length : Int) ≤ (cap : Int) := by omega
  have hln3 : l.length ≤ cap := by omega
  have hlM : (l.length : Int) ≤ 20000 := by omega
  go_upto_region 4 with fail
  refine wp_region_held_drew (S := fun Z => Keep (Of3 p b x) Y Z) hfo (hk8.trans (Keep.of_below (show Below Z8.heap.size Z8 Z8.drew from (Below.refl _ _).drew)) (fun _ h => h) (fun _ _ h => h)) (fun hS0 => ?_)
  have hB0 : Below Z8.heap.size Z8 Z8.drew := (Below.refl _ _).drew
  generalize Z8.drew = Z0 at hS0 hB0 ⊢
  refine' wpAnyH_take (i := 0) (oi := ⟨some 26, _, _, _, _, _⟩) (v := _) rfl (by kernel_rfl) (by kernel_rfl) (by kernel_rfl) (fun _ _ _ h => h) (Or.inl ⟨by rfl, ?y0w⟩) hS0 ?r0w
  case y0w =>
    intro w' hSw
    obtain ⟨c0, c1', c2', c3⟩ := HC.out _ hSw
    go_simp
    try rfl
  try simp only [Act.put, List.setIfInBounds_toArray, List.set_cons_zero, List.set_cons_succ]
  refine' wpAnyH_take (i := 1) (oi := ⟨some 27, _, _, _, _, _⟩) (v := _) rfl (by kernel_rfl) (by kernel_rfl) (by kernel_rfl) (fun _ _ _ h => h) (Or.inl ⟨by rfl, ?y1w⟩) hS0 ?r1w
  case y1w =>
    intro w' hSw
    obtain ⟨c0, c1', c2', c3⟩ := HC.out _ hSw
    go_simp
    try rfl
  try simp only [Act.put, List.setIfInBounds_toArray, List.set_cons_zero, List.set_cons_succ]
  refine' wpAnyH_take (i := 2) (oi := ⟨some 28, _, _, _, _, _⟩) (v := _) rfl (by kernel_rfl) (by kernel_rfl) (by kernel_rfl) (fun _ _ _ h => h) (Or.inl ⟨by rfl, ?y2w⟩) hS0 ?r2w
  case y2w =>
    intro w' hSw
    obtain ⟨c0, c1', c2', c3⟩ := HC.out _ hSw
    go_simp
    try rfl
  try simp only [Act.put, List.setIfInBounds_toArray, List.set_cons_zero, List.set_cons_succ]
  refine' wpAnyH_take (i := 3) (oi := ⟨some 29, _, _, _, _, _⟩) (v := _) rfl (by kernel_rfl) (by kernel_rfl) (by kernel_rfl) (fun _ _ _ h => h) (Or.inl ⟨by rfl, ?y3w⟩) hS0 ?r3w
  case y3w =>
    intro w' hSw
    obtain ⟨c0, c1', c2', c3⟩ := HC.out _ hSw
    go_simp
    try rfl
  try simp only [Act.put, List.setIfInBounds_toArray, List.set_cons_zero, List.set_cons_succ]
  refine' wpAnyH_take (i := 4) (oi := ⟨some 30, _, _, _, _, _⟩) (v := _) rfl (by kernel_rfl) (by kernel_rfl) (by kernel_rfl) (fun _ _ _ h => h) (Or.inl ⟨by rfl, ?y4w⟩) hS0 ?r4w
  case y4w =>
    intro w' hSw
    obtain ⟨c0, c1', c2', c3⟩ := HC.out _ hSw
    go_simp
    try rfl
  try simp only [Act.put, List.setIfInBounds_toArray, List.set_cons_zero, List.set_cons_succ]
  refine' wpAnyH_take (i := 5) (oi := ⟨some 31, _, _, _, _, _⟩) (v := _) rfl (by kernel_rfl) (by kernel_rfl) (by kernel_rfl) (fun _ _ _ h => h) (Or.inl ⟨by rfl, ?y5w⟩) hS0 ?r5w
  case y5w =>
    intro w' hSw
    obtain ⟨c0, c1', c2', c3⟩ := HC.out _ hSw
    go_simp
    try rfl
  try simp only [Act.put, List.setIfInBounds_toArray, List.set_cons_zero, List.set_cons_succ]
  refine' wpAnyH_take (i := 6) (oi := ⟨some 32, _, _, _, _, _⟩) (v := _) rfl (by kernel_rfl) (by kernel_rfl) (by kernel_rfl) (fun _ _ _ h => h) (Or.inl ⟨by rfl, ?y6w⟩) hS0 ?r6w
  case y6w =>
    intro w' hSw
    obtain ⟨c0, c1', c2', c3⟩ := HC.out _ hSw
    go_simp
    try rfl
  try simp only [Act.put, List.setIfInBounds_toArray, List.set_cons_zero, List.set_cons_succ]
  refine' wpAnyH_take (i := 7) (oi := ⟨some 33, _, _, _, _, _⟩) (v := _) rfl (by kernel_rfl) (by kernel_rfl) (by kernel_rfl) (fun _ _ _ h => h) (Or.inl ⟨by rfl, ?y7w⟩) hS0 ?r7w
  case y7w =>
    intro w' hSw
    obtain ⟨c0, c1', c2', c3⟩ := HC.out _ hSw
    go_simp
    try rfl
  try simp only [Act.put, List.setIfInBounds_toArray, List.set_cons_zero, List.set_cons_succ]
  refine' wpAnyH_take (i := 8) (oi := ⟨some 34, _, _, _, _, _⟩) (v := (.int .i64 (l.length : Int))) rfl (by kernel_rfl) (by kernel_rfl) (by kernel_rfl) (fun _ _ _ h => h) (Or.inl ⟨by rfl, ?y8w⟩) hS0 ?r8w
  case y8w =>
    intro w' hSw
    obtain ⟨c0, c1', c2', c3⟩ := HC.out _ hSw
    go_simp
    try rfl
  try simp only [Act.put, List.setIfInBounds_toArray, List.set_cons_zero, List.set_cons_succ]
  refine' wpAnyH_take (i := 9) (oi := ⟨some 35, _, _, _, _, _⟩) (v := (.slice (some ⟨g, 0, none⟩) l.length cap)) rfl (by kernel_rfl) (by kernel_rfl) (by kernel_rfl) (fun _ _ _ h => h) (Or.inl ⟨by rfl, ?y9w⟩) hS0 ?r9w
  case y9w =>
    intro w' hSw
    obtain ⟨c0, c1', c2', c3⟩ := HC.out _ hSw
    go_simp
    try simp [hln1, hln2, hln3]
    try rfl
  try simp only [Act.put, List.setIfInBounds_toArray, List.set_cons_zero, List.set_cons_succ]
  refine held_one (i := 10) (by kernel_rfl) rfl (fun Kc hK => ?_)
  refine held_wanted' rfl (by rfl) ?_
  go_simp
  refine (two_sendX hY0 hB (hbY8.trans (hB0.mono hbY8.size)) g hgY (Nat.lt_of_lt_of_le hgz hB0.size) (by omega) q (some ⟨g, 0, none⟩) l.length cap l (HP8.out.below hB0)).mono ?_
  rintro e Z1 ⟨n1, rfl, k1, lv1, V1, hT1, hR1⟩
  have hS1 := hS0.trans k1 (fun _ h => h) (fun _ _ h => h)
  have ho1 := (HO8.out.below hB0 (Nat.le_refl _)).kept k1 (fun i cs m hh hi => ((hY0.below (hbY8.trans (hB0.mono hbY8.size))).off i hi _ _ _ hh).2.1 rfl)
  refine hK.out _ _ hS1 (fun _ => ?_)
  clear hK Kc
  try simp only [Act.put, List.setIfInBounds_toArray, List.set_cons_zero, List.set_cons_succ]
  refine' wpAnyH_take (i := 11) (oi := ⟨some 8, _, _, _, _, _⟩) (v := _) rfl (by kernel_rfl) (by kernel_rfl) (by kernel_rfl) (fun _ _ _ h => h) (Or.inl ⟨by rfl, ?y11w⟩) hS1 ?r11w
  case y11w =>
    intro w' hSw
    go_simp
    try rfl
  try simp only [Act.put, List.setIfInBounds_toArray, List.set_cons_zero, List.set_cons_succ]
  refine wpAnyH_done (by kernel_rfl) ?_ _
  clear hk8 hln1 hln2 hln3
  have HO1 := Lib.hid (show ∃ L : List UInt8, L.length = l.length + 1 ∧ Own Z1 Y.heap.size 5 (.slice (some ⟨g, 0, none⟩) (l.length + 1) cap) L from ⟨_, by simp, ho1⟩)
  clear ho1
  go_wp2
  go_loopw [9] (fun z wx => ∃ (k : Nat) (L : List UInt8), z = .int .i64 (k : Int) ∧ k ≤ l.length + 1 ∧ L.length = l.length + 1 ∧ Own wx Y.heap.size 5 (.slice (some ⟨g, 0, none⟩) (l.length + 1) cap) L ∧ Keep (Of3 p b x) Y wx ∧ TwoX w.heap.size wx p b x E lv1 V1 lv R g) (fun z _ => l.length + 1 - (intOf z).toNat)
  case atStart =>
    obtain ⟨L, hL, ho1⟩ := HO1.out
    exact ⟨0, L, rfl, Nat.zero_le _, hL, ho1, hS1, hT1⟩
  case round =>
    clear hT1 hS1 HO1
    obtain ⟨k, L, rfl, hk, hL, ho, hkr, hTr⟩ := hrel
    have HL := Lib.hid hL
    clear hL
    have hkM : (k : Int) ≤ 20001 := by omega
    have hk0 : (0 : Int) ≤ (k : Int) := by omega
    by_cases hlt2 : k < l.length + 1
    · obtain ⟨g', eg, hg', hcell, hfr, hgl⟩ := ho.byteAt_ k (by have := HL.out; omega)
      injection eg with eg
      injection eg with eg _ _
      subst eg
      have hkI : (k : Int) < (l.length : Int) + 1 := by omega
      have hput := ho.putB k 9
      have hks := Keep.setCell (S := fun i => i = g) wr ⟨g, k, none⟩ (.int .u8 9) rfl
      have hTn := hTr.keep hks
      have hkn := hkr.trans hks (fun _ h => h) (fun i hi e => by omega)
      have HLN := Lib.hid (show (L.set k 9).length = l.length + 1 by simpa using HL.out)
      clear ho hTr hkr hks
      go_wp2
      go_roundw
      case rel => exact ⟨k + 1, L.set k 9, by go_num, by omega, HLN.out, hput, hkn, hTn⟩
      case measure => simp [intOf]; omega
    · obtain rfl : k = l.length + 1 := by omega
      clear ho
      go_upto_region 9 with fail
      refine wp_region_held_drew (S := fun Z => Keep (Of3 p b x) Y Z) hfo (hkr.trans (Keep.of_below (show Below wr.heap.size wr wr.drew from (Below.refl _ _).drew)) (fun _ h => h) (fun _ _ h => h)) (fun hS0 => ?_)
      have hT0 := hTr.two.below (show Below wr.heap.size wr wr.drew from (Below.refl _ _).drew)
      generalize wr.drew = Z0 at hS0 hT0 ⊢
      have hR0 := hRl
      refine' wpAnyH_take (i := 0) (oi := ⟨some 46, _, _, _, _, _⟩) (v := _) rfl (by kernel_rfl) (by kernel_rfl) (by kernel_rfl) (fun _ _ _ h => h) (Or.inl ⟨by rfl, ?y0x⟩) hS0 ?r0x
      case y0x =>
        intro w' hSw
        obtain ⟨c0, c1', c2', c3⟩ := HC.out _ hSw
        go_simp
        try rfl
      try simp only [Act.put, List.setIfInBounds_toArray, List.set_cons_zero, List.set_cons_succ]
      refine' wpAnyH_take (i := 2) (oi := ⟨some 48, _, _, _, _, _⟩) (v := _) rfl (by kernel_rfl) (by kernel_rfl) (by kernel_rfl) (fun _ _ _ h => h) (Or.inl ⟨by rfl, ?y2x⟩) hS0 ?r2x
      case y2x =>
        intro w' hSw
        obtain ⟨c0, c1', c2', c3⟩ := HC.out _ hSw
        go_simp
        try rfl
      try simp only [Act.put, List.setIfInBounds_toArray, List.set_cons_zero, List.set_cons_succ]
      refine' wpAnyH_take (i := 3) (oi := ⟨some 49, _, _, _, _, _⟩) (v := _) rfl (by kernel_rfl) (by kernel_rfl) (by kernel_rfl) (fun _ _ _ h => h) (Or.inl ⟨by rfl, ?y3x⟩) hS0 ?r3x
      case y3x =>
        intro w' hSw
        obtain ⟨c0, c1', c2', c3⟩ := HC.out _ hSw
        go_simp
        try rfl
      try simp only [Act.put, List.setIfInBounds_toArray, List.set_cons_zero, List.set_cons_succ]
      refine' wpAnyH_take (i := 4) (oi := ⟨some 50, _, _, _, _, _⟩) (v := _) rfl (by kernel_rfl) (by kernel_rfl) (by kernel_rfl) (fun _ _ _ h => h) (Or.inl ⟨by rfl, ?y4x⟩) hS0 ?r4x
      case y4x =>
        intro w' hSw
        obtain ⟨c0, c1', c2', c3⟩ := HC.out _ hSw
        go_simp
        try rfl
      try simp only [Act.put, List.setIfInBounds_toArray, List.set_cons_zero, List.set_cons_succ]
      refine' wpAnyH_take (i := 5) (oi := ⟨some 51, _, _, _, _, _⟩) (v := _) rfl (by kernel_rfl) (by kernel_rfl) (by kernel_rfl) (fun _ _ _ h => h) (Or.inl ⟨by rfl, ?y5x⟩) hS0 ?r5x
      case y5x =>
        intro w' hSw
        obtain ⟨c0, c1', c2', c3⟩ := HC.out _ hSw
        go_simp
        try rfl
      try simp only [Act.put, List.setIfInBounds_toArray, List.set_cons_zero, List.set_cons_succ]
      refine' wpAnyH_take (i := 6) (oi := ⟨some 52, _, _, _, _, _⟩) (v := _) rfl (by kernel_rfl) (by kernel_rfl) (by kernel_rfl) (fun _ _ _ h => h) (Or.inl ⟨by rfl, ?y6x⟩) hS0 ?r6x
      case y6x =>
        intro w' hSw
        obtain ⟨c0, c1', c2', c3⟩ := HC.out _ hSw
        go_simp
        try rfl
      try simp only [Act.put, List.setIfInBounds_toArray, List.set_cons_zero, List.set_cons_succ]
      refine' wpAnyH_take (i := 7) (oi := ⟨some 53, _, _, _, _, _⟩) (v := _) rfl (by kernel_rfl) (by kernel_rfl) (by kernel_rfl) (fun _ _ _ h => h) (Or.inl ⟨by rfl, ?y7x⟩) hS0 ?r7x
      case y7x =>
        intro w' hSw
        obtain ⟨c0, c1', c2', c3⟩ := HC.out _ hSw
        go_simp
        try rfl
      try simp only [Act.put, List.setIfInBounds_toArray, List.set_cons_zero, List.set_cons_succ]
      refine' wpAnyH_take (i := 8) (oi := ⟨some 54, _, _, _, _, _⟩) (v := _) rfl (by kernel_rfl) (by kernel_rfl) (by kernel_rfl) (fun _ _ _ h => h) (Or.inl ⟨by rfl, ?y8x⟩) hS0 ?r8x
      case y8x =>
        intro w' hSw
        obtain ⟨c0, c1', c2', c3⟩ := HC.out _ hSw
        go_simp
        try rfl
      try simp only [Act.put, List.setIfInBounds_toArray, List.set_cons_zero, List.set_cons_succ]
      refine held_one (i := 1) (by kernel_rfl) rfl (fun Kc hK => ?_)
      refine held_wanted' rfl (by rfl) ?_
      go_simp
      refine (num_any n1 Z0).mono ?_
      rintro e w2 ⟨rfl, hzz⟩
      obtain rfl := hzz.symm
      refine hK.out _ _ hS0 (fun _ => ?_)
      clear hK Kc
      try simp only [Act.put, List.setIfInBounds_toArray, List.set_cons_zero, List.set_cons_succ]
      refine held_one (i := 9) (by kernel_rfl) rfl (fun Kc hK => ?_)
      refine held_wanted' rfl (by rfl) ?_
      go_simp
      refine (two_refSend hT0 (Nat.le_trans hB hS0.size) hRl hl0 (by omega) q A l.length c l (HSL.out Z0 hS0)).mono ?_
      rintro e Z2 ⟨n2, rfl, k2, lv2, R2, hT2, hR2⟩
      have hle := hR1.le
      obtain ⟨rfl, rfl, he2⟩ := hR1.agree hR2 rfl he
      have hS2 := hS0.trans k2 (fun _ h => h) (fun _ _ h => h)
      refine hK.out _ _ hS2 (fun _ => ?_)
      clear hK Kc
      try simp only [Act.put, List.setIfInBounds_toArray, List.set_cons_zero, List.set_cons_succ]
      refine' wpAnyH_take (i := 10) (oi := ⟨some 56, _, _, _, _, _⟩) (v := _) rfl (by kernel_rfl) (by kernel_rfl) (by kernel_rfl) (fun _ _ _ h => h) (Or.inl ⟨by rfl, ?y10x⟩) hS2 ?r10x
      case y10x =>
        intro w' hSw
        go_simp
        try rfl
      try simp only [Act.put, List.setIfInBounds_toArray, List.set_cons_zero, List.set_cons_succ]
      refine' wpAnyH_take (i := 11) (oi := ⟨some 6, _, _, _, _, _⟩) (v := _) rfl (by kernel_rfl) (by kernel_rfl) (by kernel_rfl) (fun _ _ _ h => h) (Or.inl ⟨by rfl, ?y11x⟩) hS2 ?r11x
      case y11x =>
        intro w' hSw
        go_simp
        try rfl
      try simp only [Act.put, List.setIfInBounds_toArray, List.set_cons_zero, List.set_cons_succ]
      refine wpAnyH_done (by kernel_rfl) ?_ _
      go_wp2
      go_ret
      exact ⟨by simp, HKW.out _ hS2, lv1, V1, R2, by omega, hT2, he2⟩
theorem do_any {w W : World} {p b x : Nat} {E lv : Int} {V R : List (Fl Pl)} (hW : Below w.heap.size w W) (h : Two w.heap.size W p b x E lv V lv R) (he : pv V = pv R) (hlo : lv ≤ 1000000) (s : NA.St) (hs : NA.St0 w s) (hl : s.b.length ≤ 20000) :
    Calls Try.prog 15 #[.pointer (some ⟨p, 0, none⟩), .pointer (some ⟨x, 0, none⟩), .agg #[.int .i64 s.kind, .int .i64 s.x, .int .i64 s.y, s.bv]] W (DoE w W p b x E lv) := by
  have hl0 := h.lost0
  obtain ⟨A, n, c, e4⟩ := hs.b.shape
  have hb := hs.b
  rw [e4] at hb ⊢
  obtain rfl : n = s.b.length := hb.len
  by_cases h1 : s.kind = 1
  · rw [h1]; exact do1 (q := (s.x, s.y)) hW h he hl0 hlo hs.x2 A 0 c s.b hb hl
  by_cases h2 : s.kind = 2
  · rw [h2]; exact do2 (q := (s.x, s.y)) hW h he hl0 hlo hs.x2 A _ c s.b hb hl
  by_cases h3 : s.kind = 3
  · rw [h3]; exact do3 (q := (s.x, s.y)) hW h he hl0 hlo hs.x2 A _ c s.b hb hl
  by_cases h4 : s.kind = 4
  · rw [h4]; exact do4 (q := (s.x, s.y)) hW h he hl0 hlo hs.x2 A _ c s.b hb hl
  by_cases h5 : s.kind = 5
  · rw [h5]; exact do5 (q := (s.x, s.y)) hW h he hl0 hlo hs.x2 A _ c s.b hb hl
  by_cases h6 : s.kind = 6
  · rw [h6]; exact do6 (q := (s.x, s.y)) hW h he hl0 hlo hs.x2 A _ c s.b hb hl
  · exact do0 (q := (s.x, s.y)) hW h he hl0 hlo hs.x2 A _ c s.b hb hl s.kind h1 h2 h3 h4 h5 h6
end Go.Proofs.Ytellbmghahgjfaa

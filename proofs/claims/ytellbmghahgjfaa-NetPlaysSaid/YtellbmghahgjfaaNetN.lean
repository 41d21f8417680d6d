/-
  The chapter's rows of net; the document's Same.
-/
import Derived.Test.YtellbmghahgjfaaNetL
import Derived.Lib.SlBytesConst
namespace Go.Proofs.Ytellbmghahgjfaa
open Go.RowKit Go.Maps Go.WideShapes Go.WideMaps
open NetM
set_option linter.unusedVariables false
set_option linter.unusedSimpArgs false
set_option maxRecDepth 20000

theorem num_any (n : Int) (w : World) : Calls Try.prog 10 #[.int .i64 n] w fun e w' => e = .returned (.int .i64 n) ∧ w' = w := by
  go_enter Try.func10, Try.ntmps10
  go_wp2
  go_ret
  exact ⟨rfl, rfl⟩
/-- Are two flights the same? -/
def sameB (q : Pr) (l : List UInt8) (r : Pr) (k : List UInt8) : Bool := decide (q = r ∧ l = k)
set_option maxHeartbeats 2000000 in
theorem same_any (q r : Pr) (u v : Value) (l k : List UInt8) (w : World) (hu : Sl w u l) (hv : Sl w v k) : Calls Try.prog 26 #[.agg #[.int .i64 q.1, .int .i64 q.2, u], .agg #[.int .i64 r.1, .int .i64 r.2, v]] w fun e w' => e = .returned (.bool (sameB q l r k)) ∧ Below w.heap.size w w' := by
  obtain ⟨A, n, c, rfl⟩ := hu.shape
  obtain ⟨A', n', c', rfl⟩ := hv.shape
  have hb : Below w.heap.size w ((w.alloc (.cells #[.int .i64 q.1, .int .i64 q.2, .slice A n c] 44)).alloc (.cells #[.int .i64 r.1, .int .i64 r.2, .slice A' n' c'] 44)) := ((Below.refl _ _).alloc (Nat.le_refl _) _).alloc (by simp) _
  have h1 := (hu.below hb).conv (P := Try.prog) (src := 37) (dst := 9) Try.underlying37 Try.underlying5 Try.underlying9
  have h2 := (hv.below hb).conv (P := Try.prog) (src := 37) (dst := 9) Try.underlying37 Try.underlying5 Try.underlying9
  have HE := Lib.hid (show (l.toArray.toList == k.toArray.toList) = decide (l = k) by simp; rw [Bool.eq_iff_iff]; simp)
  have HS := Lib.hid (show sameB q l r k = (decide (q.1 = r.1) && (decide (q.2 = r.2) && decide (l = k))) by
    unfold sameB
    rw [Bool.eq_iff_iff]
    simp only [Bool.and_eq_true, decide_eq_true_iff, Prod.ext_iff]
    exact ⟨fun ⟨⟨a, b⟩, c⟩ => ⟨a, b, c⟩, fun ⟨a, b, c⟩ => ⟨⟨a, b⟩, c⟩⟩)
  rw [HS.out]
  by_cases e1 : q.1 = r.1
  · have d1 : (q.1 == r.1) = true := by simpa using e1
    by_cases e2 : q.2 = r.2
    · have d2 : (q.2 == r.2) = true := by simpa using e2
      have HD := Lib.hid (And.intro e1 e2)
      clear e1 e2
      go_enter Try.func26, Try.ntmps26
      go_wp2
      go_ret
      refine ⟨?_, hb⟩
      show Ending.returned (.bool (l == k)) = _
      simp only [HD.out.1, HD.out.2, decide_true, Bool.true_and]
      congr 2
    · have d2 : (q.2 == r.2) = false := by simpa using e2
      have HD := Lib.hid (And.intro e1 e2)
      clear e1 e2
      go_enter Try.func26, Try.ntmps26
      go_wp2
      go_ret
      exact ⟨by simp [HD.out.2], hb⟩
  · have d1 : (q.1 == r.1) = false := by simpa using e1
    have HD := Lib.hid e1
    clear e1
    go_enter Try.func26, Try.ntmps26
    go_wp2
    go_ret
    exact ⟨by simp [HD.out], hb⟩
section
variable {w w' : World} {p b : Nat} {E lost : Int} {m : Option Nat} {K : Kl} {V : List (Fl Pl)} {G : Nat → Prop}
/-- A flight in a box, with bytes of one's own. -/
def Box (X : World) (g : Nat) (q : Pr) (s : Sv) (l : List UInt8) : Prop := Blk X g 44 #[.int .i64 q.1, .int .i64 q.2, sv s] ∧ Own X 0 5 (sv s) l
theorem Box.below {g : Nat} {q : Pr} {s : Sv} {l : List UInt8} (h : Box w g q s l) (hb : Below w.heap.size w w') : Box w' g q s l := ⟨h.1.below hb h.1.lt, h.2.below hb (Nat.le_refl _)⟩
theorem Own.kept {base : Nat} {e : TypeId} {v : Value} {l : List UInt8} {S : Nat → Prop} (h : Own w base e v l) (k : Keep S w w') (hn : ∀ i cs m, w.heap[i]? = some (.cells cs e m) → ¬ S i) : Own w' base e v l := by
  refine ⟨h.1, ?_⟩
  rcases h.2 with h2 | ⟨g, cap, cur, hv, hg, hh, r⟩
  · exact .inl h2
  · exact .inr ⟨g, cap, cur, hv, hg, (k.block g (Array.getElem?_eq_some_iff.1 hh).1 (hn _ _ _ hh)).trans hh, r⟩
/-- The net's own two blocks are no cells of another type. -/
theorem Nt.other (h : Nt w p b E lost K V G) {i : Nat} {cs : Array Value} {t : TypeId} {m : Nat × Nat} (hi : w.heap[i]? = some (.cells cs t m)) (ht : t ≠ 55) : ¬ (i = p ∨ i = b) := by
  rintro (rfl | rfl)
  · have := hi.symm.trans h.blk
    injection this with this
    injection this with _ e _
    exact ht e
  · obtain ⟨es, clock, hb, _⟩ := h.map
    rw [hi] at hb; cases hb
theorem Box.turn {E' lost' : Int} {V' : List (Fl Pl)} {g : Nat} {q : Pr} {s : Sv} {l : List UInt8} (h : Box w g q s l) (hN : Nt w p b E lost K V G) (hT : Turn w p b E' lost' V' G w') : Box w' g q s l :=
  ⟨h.1.kept hT.1 (hN.other h.1 (by decide)), h.2.kept hT.1 fun i cs m hi => hN.other hi (by decide)⟩
theorem Box.sl {g : Nat} {q : Pr} {s : Sv} {l : List UInt8} (h : Box w g q s l) : Sl w (sv s) l := h.2.sl
theorem Box.cells {g : Nat} {q : Pr} {s0 : Option Addr} {s1 s2 : Nat} {l : List UInt8} (h : Box w g q (s0, s1, s2) l) : w.cell? ⟨g, 0, none⟩ = some (.int .i64 q.1) ∧ w.cell? ⟨g, 1, none⟩ = some (.int .i64 q.2) ∧ w.cell? ⟨g, 2, none⟩ = some (.slice s0 s1 s2) := by
  refine ⟨?_, ?_, ?_⟩ <;> (rw [h.1.cell]; rfl)
/-- One byte, of a constant. -/
theorem Sl.oneM (X : World) (e : TypeId) (x : Int) (c : UInt8) (hx : x = (c.toNat : Int)) (fr : Nat × Nat) : Sl (X.alloc (.cells #[.int .u8 x] e fr)) (.slice (some ⟨X.heap.size, 0, none⟩) 1 1) [c] := by
  subst hx
  refine ⟨_, 1, rfl, by simp, fun _ => ⟨_, 0, rfl, fun j hj => ?_⟩⟩
  have h0 : j = 0 := by simpa using hj
  subst h0
  exact cell_of_row _ X.heap.size 0 #[.int .u8 (c.toNat : Int)] e fr (heap_alloc_new X _)
theorem Turn.get {V' : List (Fl Pl)} (h : Turn w p b E lost V' G w') : Keep (fun i => i = p ∨ i = b) w w' ∧ ∃ K' G', Nt w' p b E lost K' V' G' ∧ ∀ i, G' i → G i ∨ w.heap.size ≤ i := h
theorem send1 (h : Nt w p b E lost K V G) (a d : Int) (x : Int) (c : UInt8) (hx : x = (c.toNat : Int)) (fr : Nat × Nat) (hq : InR E (a, d)) (hlo : lost ≤ 1000) (hfu : (lineOf V (a, d)).length < 64) :
    Calls Try.prog 17 #[.pointer (some ⟨p, 0, none⟩), .int .i64 a, .int .i64 d, .slice (some ⟨w.heap.size, 0, none⟩) 1 1] (w.alloc (.cells #[.int .u8 x] 5 fr)) fun e w' => e = .returned (.int .i64 0) ∧ ∃ s, Turn w p b E lost (lay V ⟨(a, d), (s, [c])⟩) G w' := by
  have hb : Below w.heap.size w (w.alloc (.cells #[.int .u8 x] 5 fr)) := (Below.refl _ _).alloc (Nat.le_refl _) _
  refine (send_any (h.below hb) (a, d) _ [c] (Sl.oneM w _ x c hx fr) ⟨hq, by simp⟩ (by omega)).mono ?_
  rintro e w' (⟨h1, _⟩ | ⟨_, rfl, s, hT⟩)
  · omega
  · exact ⟨rfl, s, hT.pre hb⟩
theorem send1_bad (h : Nt w p b E lost K V G) (a d : Int) (x : Int) (c : UInt8) (hx : x = (c.toNat : Int)) (fr : Nat × Nat) (hq : ¬ InR E (a, d)) :
    Calls Try.prog 17 #[.pointer (some ⟨p, 0, none⟩), .int .i64 a, .int .i64 d, .slice (some ⟨w.heap.size, 0, none⟩) 1 1] (w.alloc (.cells #[.int .u8 x] 5 fr)) fun e w' => e = .returned (.int .i64 2) ∧ Below w.heap.size w w' := by
  have hb : Below w.heap.size w (w.alloc (.cells #[.int .u8 x] 5 fr)) := (Below.refl _ _).alloc (Nat.le_refl _) _
  refine (send_bad (h.below hb) (a, d) _ [c] (Sl.oneM w _ x c hx fr) (fun hm => hq hm.1)).mono ?_
  rintro e w' ⟨rfl, hw⟩
  exact ⟨rfl, hb.trans (hw.mono hb.size)⟩
end
theorem same1 {w : World} (a b c d : Int) (u : Value) (l : List UInt8) (hu : Sl w u l) (x : Int) (k : UInt8) (hx : x = (k.toNat : Int)) (fr : Nat × Nat) : Calls Try.prog 26 #[.agg #[.int .i64 a, .int .i64 b, u], .agg #[.int .i64 c, .int .i64 d, .slice (some ⟨w.heap.size, 0, none⟩) 1 1]] (w.alloc (.cells #[.int .u8 x] 5 fr)) fun e w' => e = .returned (.bool (sameB (a, b) l (c, d) [k])) ∧ Below w.heap.size w w' := by
  have hb : Below w.heap.size w (w.alloc (.cells #[.int .u8 x] 5 fr)) := (Below.refl _ _).alloc (Nat.le_refl _) _
  refine (same_any (a, b) (c, d) u _ l [k] _ (hu.below hb) (Sl.oneM w _ x k hx fr)).mono ?_
  rintro e w' ⟨rfl, hw⟩
  exact ⟨rfl, hb.trans (hw.mono hb.size)⟩
section
variable (s1 s2 s3 : Sv)
theorem kn_s1 : sameB (1, 2) [98] (1, 2) [98] = true := by decide
theorem kn_s2 : sameB (2, 1) [97] (2, 1) [97] = true := by decide
theorem kn_v4 (s4 : Sv) : lay [(⟨(1, 2), (s2, [98])⟩ : Fl Pl), ⟨(1, 3), (s3, [99])⟩] ⟨(1, 2), (s4, [98])⟩ = [⟨(1, 2), (s2, [98])⟩, ⟨(1, 2), (s4, [98])⟩, ⟨(1, 3), (s3, [99])⟩] := by simp [lay, leB, Le]
theorem kn_v1 : lay ([] : List (Fl Pl)) ⟨(2, 1), (s1, [97])⟩ = [⟨(2, 1), (s1, [97])⟩] := rfl
theorem kn_v2 : lay [(⟨(2, 1), (s1, [97])⟩ : Fl Pl)] ⟨(1, 2), (s2, [98])⟩ = [⟨(1, 2), (s2, [98])⟩, ⟨(2, 1), (s1, [97])⟩] := by simp [lay, leB, Le]
theorem kn_v3 : lay [(⟨(1, 2), (s2, [98])⟩ : Fl Pl), ⟨(2, 1), (s1, [97])⟩] ⟨(1, 3), (s3, [99])⟩ = [⟨(1, 2), (s2, [98])⟩, ⟨(1, 3), (s3, [99])⟩, ⟨(2, 1), (s1, [97])⟩] := by simp [lay, leB, Le]
end
set_option maxHeartbeats 8000000 in
theorem nknown_any (w : World) : Calls Try.prog 11 #[] w fun e w' => e = .returned (.bool true) ∧ Below w.heap.size w w' := by
  have hcv := fun (w : World) (C : Array Value) (n c : Nat) => Lib.run_convert_bytes_const (P := Try.prog) w 37 5 C n c Try.underlying37 Try.underlying5
  go_enter Try.func11, Try.ntmps11
  go_upto_region 2 with (go_at_call 9; refine (new_any 3 (by decide) (by decide) _).mono ?_; rintro e w1 ⟨p, b, rfl, hN, hb1, hp, hb⟩)
  go_upto_region 4 with (first | (go_at_call 10; refine (num_any _ _).mono ?_; rintro e w2 ⟨rfl, hwd⟩; obtain rfl := hwd.symm) | (go_at_call 17; with_reducible (show Calls _ _ #[_, .int .i64 2, .int .i64 1, _] _ _); refine (send1 hN 2 1 97 97 (by decide) _ (by decide) (by decide) (by decide)).mono ?_; rintro e X1 ⟨rfl, s1, hT1⟩; obtain ⟨hk1, K1, G1, hN1, hm1⟩ := hT1.get; rw [kn_v1] at hN1; have hz1 := Keep.below hb1 hk1 hb1.size (fun i hi => by omega)) | (go_at_call 17; with_reducible (show Calls _ _ #[_, .int .i64 1, .int .i64 2, _] _ _); refine (send1 hN1 1 2 98 98 (by decide) _ (by decide) (by decide) (Nat.lt_of_le_of_lt (lineOf_len _ _) (by simp))).mono ?_; rintro e X2 ⟨rfl, s2, hT2⟩; obtain ⟨hk2, K2, G2, hN2, hm2⟩ := hT2.get; rw [kn_v2] at hN2; have hz2 := Keep.below hz1 hk2 hz1.size (fun i hi => by omega)) | (go_at_call 17; with_reducible (show Calls _ _ #[_, .int .i64 1, .int .i64 3, _] _ _); refine (send1 hN2 1 3 99 99 (by decide) _ (by decide) (by decide) (Nat.lt_of_le_of_lt (lineOf_len _ _) (by simp))).mono ?_; rintro e X3 ⟨rfl, s3, hT3⟩; obtain ⟨hk3, K3, G3, hN3, hm3⟩ := hT3.get; rw [kn_v3] at hN3; have hz3 := Keep.below hz2 hk3 hz2.size (fun i hi => by omega)))
  have HAT := Lib.hid (show Calls Try.prog 18 #[.pointer (some ⟨p, 0, none⟩), .int .i64 0] X3 fun e w' => ∃ s, e = .returned (.tuple #[.agg #[.int .i64 1, .int .i64 2, sv s], .int .i64 0]) ∧ Own w' X3.heap.size 5 (sv s) [98] ∧ Below X3.heap.size X3 w' from at_any hN3 0 (by simp))
  clear hm1 hm2 hm3 hk1 hk2 hk3 hN hN1 hN2 hz1 hz2 hb1
  go_upto_region 5 with (go_at_call 18; refine HAT.out.mono ?_; rintro e A ⟨⟨t0, t1, t2⟩, rfl, hoA, hbA⟩; simp only [sv] at *)
  have hN4 := hN3.below (hbA.alloc hbA.size (.cells #[.int .i64 1, .int .i64 2, .slice t0 t1 t2] 44))
  have hz4 := hz3.trans ((hbA.alloc hbA.size (.cells #[.int .i64 1, .int .i64 2, .slice t0 t1 t2] 44)).mono hz3.size)
  have hA4 : Box (A.alloc (.cells #[.int .i64 1, .int .i64 2, .slice t0 t1 t2] 44)) A.heap.size (1, 2) (t0, t1, t2) [98] := ⟨Blk.new A _ _, (hoA.alloc _).mono (Nat.zero_le _)⟩
  obtain ⟨za, hza⟩ : ∃ z, A.heap.size = z := ⟨_, rfl⟩
  rw [hza] at hA4
  rw [hza]
  generalize A.alloc (.cells #[.int .i64 1, .int .i64 2, .slice t0 t1 t2] 44) = X4 at hN4 hz4 hA4 ⊢
  clear hN3 hz3 hoA hbA hza HAT
  have HTK := Lib.hid (show Calls Try.prog 19 #[.pointer (some ⟨p, 0, none⟩), .int .i64 2] X4 (TakeEnd X4 p b 3 0 [⟨(1, 2), (s2, [98])⟩, ⟨(1, 3), (s3, [99])⟩] G3 (2, 1) [97]) from take_any hN4 2 (by simp))
  go_upto_region 6 with (go_at_call 19; refine HTK.out.mono ?_; rintro e B ⟨⟨r0, r1, r2⟩, rfl, hoB, hTB⟩; simp only [sv] at *)
  have hA5 := (hA4.turn hN4 hTB).below (show Below B.heap.size B (B.alloc (.cells #[.int .i64 2, .int .i64 1, .slice r0 r1 r2] 44)) from (Below.refl _ _).alloc (Nat.le_refl _) _)
  obtain ⟨hkB, K5, G5, hNB, hmB⟩ := hTB.get
  have hz5 := (Keep.below hz4 hkB hz4.size (fun i hi => by omega)).alloc (by have := hkB.size; have := hz4.size; omega) (.cells #[.int .i64 2, .int .i64 1, .slice r0 r1 r2] 44)
  have hN5 := hNB.below (show Below B.heap.size B (B.alloc (.cells #[.int .i64 2, .int .i64 1, .slice r0 r1 r2] 44)) from (Below.refl _ _).alloc (Nat.le_refl _) _)
  have hB5 : Box (B.alloc (.cells #[.int .i64 2, .int .i64 1, .slice r0 r1 r2] 44)) B.heap.size (2, 1) (r0, r1, r2) [97] := ⟨Blk.new B _ _, (hoB.alloc _).mono (Nat.zero_le _)⟩
  obtain ⟨zb, hzb⟩ : ∃ z, B.heap.size = z := ⟨_, rfl⟩
  rw [hzb] at hB5
  rw [hzb]
  generalize B.alloc (.cells #[.int .i64 2, .int .i64 1, .slice r0 r1 r2] 44) = X5 at hN5 hz5 hA5 hB5 ⊢
  clear hN4 hz4 hA4 hoB hTB hkB hNB hmB hzb HTK
  obtain ⟨a0, a1, a2⟩ := hA5.cells
  have HSA := Lib.hid (same1 1 2 1 2 (.slice t0 t1 t2) [98] hA5.2.sl 98 98 (by decide) (1, 2))
  have HSB := Lib.hid (show ∀ Y, Below X5.heap.size X5 Y → (Y.cell? ⟨zb, 0, none⟩ = some (.int .i64 2) ∧ Y.cell? ⟨zb, 1, none⟩ = some (.int .i64 1) ∧ Y.cell? ⟨zb, 2, none⟩ = some (.slice r0 r1 r2)) ∧ Calls Try.prog 26 #[.agg #[.int .i64 2, .int .i64 1, .slice r0 r1 r2], .agg #[.int .i64 2, .int .i64 1, .slice (some ⟨Y.heap.size, 0, none⟩) 1 1]] (Y.alloc (.cells #[.int .u8 97] 5 (1, 2))) fun e w' => e = .returned (.bool true) ∧ Below Y.heap.size Y w' from fun Y hY => ⟨(hB5.below hY).cells, by have := same1 2 1 2 1 (.slice r0 r1 r2) [97] (hB5.below hY).2.sl 97 97 (by decide) (1, 2); rw [kn_s2] at this; exact this⟩)
  have HLN := Lib.hid (show ∀ Y, Below X5.heap.size X5 Y → Calls Try.prog 20 #[.pointer (some ⟨p, 0, none⟩)] Y fun e w' => e = .returned (.int .i64 2) ∧ Below Y.heap.size Y w' from fun Y hY => len_any (hN5.below hY))
  rw [kn_s1] at HSA
  go_upto_region 8 with (first | (go_at_call 10; refine (num_any _ _).mono ?_; rintro e w2 ⟨rfl, hwd⟩; obtain rfl := hwd.symm) | (go_at_call 26; with_reducible (show Calls _ _ #[.agg #[.int .i64 1, .int .i64 2, _], _] _ _); refine HSA.out.mono ?_; rintro e Y1 ⟨rfl, hbY1⟩; obtain ⟨⟨b0, b1, b2⟩, hsb⟩ := HSB.out Y1 hbY1) | (go_at_call 26; with_reducible (show Calls _ _ #[.agg #[.int .i64 2, .int .i64 1, _], _] _ _); refine hsb.mono ?_; rintro e Y2 ⟨rfl, hbY2⟩; have hY2 := hbY1.trans (hbY2.mono hbY1.size)) | (go_at_call 20; refine (HLN.out Y2 hY2).mono ?_; rintro e Y3 ⟨rfl, hbY3⟩; have hY3 := hY2.trans (hbY3.mono hY2.size)))
  clear b0 b1 b2 hsb hbY1 hbY2 hbY3 hY2 HSA HSB HLN a0 a1 a2
  have hN8 := hN5.below hY3
  have hz8 := hz5.trans (hY3.mono hz5.size)
  have hA8 := hA5.below hY3
  clear hN5 hz5 hA5 hB5 hY3
  have HDB := Lib.hid (show Calls Try.prog 21 #[.pointer (some ⟨p, 0, none⟩), .int .i64 0] Y3 (PutEnd Y3 p b 3 0 [⟨(1, 2), (s2, [98])⟩, ⟨(1, 3), (s3, [99])⟩] G5 (1, 2) [98] 0) from double_any hN8 0 (by simp))
  go_upto_region 9 with (go_at_call 21; refine HDB.out.mono ?_; rintro e D (⟨h64, _⟩ | ⟨_, rfl, s4, hTD⟩); exact absurd h64 (by simp [lineOf]))
  have hA9 := hA8.turn hN8 hTD
  obtain ⟨hkD, K9, G9, hN9, hmD⟩ := hTD.get
  rw [kn_v4] at hN9
  have hz9 := Keep.below hz8 hkD hz8.size (fun i hi => by omega)
  clear hN8 hz8 hA8 hTD hkD hmD HDB
  have HTK := Lib.hid (show Calls Try.prog 19 #[.pointer (some ⟨p, 0, none⟩), .int .i64 1] D (TakeEnd D p b 3 0 [⟨(1, 2), (s2, [98])⟩, ⟨(1, 3), (s3, [99])⟩] G9 (1, 2) [98]) from take_any hN9 1 (by simp))
  go_upto_region 10 with (go_at_call 19; refine HTK.out.mono ?_; rintro e C ⟨⟨u0, u1, u2⟩, rfl, hoC, hTC⟩; simp only [sv] at *)
  have hAC := (hA9.turn hN9 hTC).below (show Below C.heap.size C (C.alloc (.cells #[.int .i64 1, .int .i64 2, .slice u0 u1 u2] 44)) from (Below.refl _ _).alloc (Nat.le_refl _) _)
  obtain ⟨hkC, KC, GC, hNC, hmC⟩ := hTC.get
  have hzC := (Keep.below hz9 hkC hz9.size (fun i hi => by omega)).alloc (by have := hkC.size; have := hz9.size; omega) (.cells #[.int .i64 1, .int .i64 2, .slice u0 u1 u2] 44)
  have hNC := hNC.below (show Below C.heap.size C (C.alloc (.cells #[.int .i64 1, .int .i64 2, .slice u0 u1 u2] 44)) from (Below.refl _ _).alloc (Nat.le_refl _) _)
  have hCC : Box (C.alloc (.cells #[.int .i64 1, .int .i64 2, .slice u0 u1 u2] 44)) C.heap.size (1, 2) (u0, u1, u2) [98] := ⟨Blk.new C _ _, (hoC.alloc _).mono (Nat.zero_le _)⟩
  obtain ⟨zc, hzc⟩ : ∃ z, C.heap.size = z := ⟨_, rfl⟩
  rw [hzc] at hCC
  rw [hzc]
  generalize C.alloc (.cells #[.int .i64 1, .int .i64 2, .slice u0 u1 u2] 44) = XC at hNC hzC hAC hCC ⊢
  clear hN9 hz9 hA9 hoC hTC hkC hmC hzc HTK
  obtain ⟨a0, a1, a2⟩ := hAC.cells
  obtain ⟨c0, c1, c2⟩ := hCC.cells
  have HS := Lib.hid (same_any (1, 2) (1, 2) (.slice u0 u1 u2) (.slice t0 t1 t2) [98] [98] XC hCC.2.sl hAC.2.sl)
  rw [kn_s1] at HS
  have HDR := Lib.hid (show ∀ Y, Below XC.heap.size XC Y → Calls Try.prog 28 #[.pointer (some ⟨p, 0, none⟩), .int .i64 9] Y fun e w' => e = .returned (.int .i64 6) ∧ Below Y.heap.size Y w' from fun Y hY => drop_bad (find_out (hNC.below hY) 9 (by simp) (by decide)) (by decide))
  have HSN := Lib.hid (show ∀ Y, Below XC.heap.size XC Y → Calls Try.prog 17 #[.pointer (some ⟨p, 0, none⟩), .int .i64 1, .int .i64 1, .slice (some ⟨Y.heap.size, 0, none⟩) 1 1] (Y.alloc (.cells #[.int .u8 120] 5 (1, 2))) fun e w' => e = .returned (.int .i64 2) ∧ Below Y.heap.size Y w' from fun Y hY => send1_bad (hNC.below hY) 1 1 120 120 (by decide) (1, 2) (by decide))
  go_wp2_with (first | (go_at_call 10; refine (num_any _ _).mono ?_; rintro e w2 ⟨rfl, hwd⟩; obtain rfl := hwd.symm) | (go_at_call 26; refine HS.out.mono ?_; rintro e Y1 ⟨rfl, hbY1⟩) | (go_at_call 28; refine (HDR.out Y1 hbY1).mono ?_; rintro e Y2 ⟨rfl, hbY2⟩; have hY2 := hbY1.trans (hbY2.mono hbY1.size)) | (go_at_call 17; refine (HSN.out Y2 hY2).mono ?_; rintro e Y3 ⟨rfl, hbY3⟩; have hY3 := hY2.trans (hbY3.mono hY2.size)))
  go_ret
  exact ⟨rfl, hzC.trans (hY3.mono hzC.size)⟩
end Go.Proofs.Ytellbmghahgjfaa

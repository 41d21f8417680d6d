/-
  The document's Send, Double, Clear.
-/
import Derived.Test.YtellbmghahgjfaaNfC
namespace Go.Proofs.Ytellbmghahgjfaa
open Go.RowKit Go.Maps
open NetM
set_option linter.unusedVariables false
set_option linter.unusedSimpArgs false
set_option maxRecDepth 20000
section
variable {w w' : World} {x B : Nat} {s : Sv} {E lost : Int} {R : List (Fl Pl)}
theorem RnEnd.same (h : Rn w x s E lost R B) (hb : Below w.heap.size w w') : RnEnd w x E lost R B w' := ⟨.of_below hb, s, h.below hb⟩
theorem RnEnd.pre {W : World} (hb : Below w.heap.size w W) (h : RnEnd W x E lost R B w') : RnEnd w x E lost R B w' := ⟨(Keep.of_below hb).trans h.1 (fun _ h => h) (fun _ _ h => h), h.2⟩
theorem Rn.more (h : Rn w x s E lost R B) (l : Int) : Rn (w.setCell ⟨x, 2, none⟩ (.int .i64 l)) x s E l R B := by
  obtain ⟨h1, h2, h3⟩ := h.rows (Keep.setCell (S := fun i => i = x) w ⟨x, 2, none⟩ (.int .i64 l) rfl) h.offx
  exact ⟨h.blk.set_ 2 (.int .i64 l), h1, h2, h3, h.xb⟩
/-- What a sending answers and leaves. -/
def RSend (w : World) (x : Nat) (E lost : Int) (R : List (Fl Pl)) (B : Nat) (q : Pr) (l : List UInt8) (e : Ending) (w' : World) : Prop :=
  (¬ MaySend E q l ∧ e = .returned (.int .i64 2) ∧ RnEnd w x E lost R B w') ∨
  (MaySend E q l ∧ 64 ≤ (lineOf R q).length ∧ e = .returned (.int .i64 5) ∧ RnEnd w x E (lost + 1) R B w') ∨
  (MaySend E q l ∧ (lineOf R q).length < 64 ∧ e = .returned (.int .i64 0) ∧ ∃ s, RnEnd w x E lost (lay R ⟨q, (s, l)⟩) B w')
theorem u8I : ∃ i, Try.prog.info? 5 = some i ∧ i.zero = some (.int .u8 0) ∧ i.size = 1 ∧ i.bytes = 1 := by
  have h := info_u8
  cases e : Try.prog.info? 5 with
  | none => rw [e] at h; cases h
  | some i =>
    rw [e] at h
    simp only [Option.map_some, Option.some.injEq, Prod.mk.injEq] at h
    exact ⟨i, rfl, h.1, h.2.1, h.2.2⟩
set_option maxHeartbeats 4000000 in
theorem refSend_bad (h : Rn w x s E lost R B) (q : Pr) (A : Option Addr) (n c : Nat) (hn : ¬ (InR E q ∧ n ≤ 1048576)) : Calls Try.prog 31 #[.pointer (some ⟨x, 0, none⟩), .int .i64 q.1, .int .i64 q.2, .slice A n c] w fun e w' => e = .returned (.int .i64 2) ∧ w' = w := by
  have c1 := h.c1
  clear h
  unfold InR at hn
  by_cases h1 : q.1 < 1
  · clear hn
    go_enter Try.func31, Try.ntmps31
    go_wp2
    go_ret
    exact ⟨rfl, rfl⟩
  by_cases h2 : q.2 < 1
  · clear hn
    go_enter Try.func31, Try.ntmps31
    go_wp2
    go_ret
    exact ⟨rfl, rfl⟩
  by_cases h3 : E < q.1
  · clear hn
    go_enter Try.func31, Try.ntmps31
    go_wp2
    go_ret
    exact ⟨rfl, rfl⟩
  by_cases h4 : E < q.2
  · clear hn
    go_enter Try.func31, Try.ntmps31
    go_wp2
    go_ret
    exact ⟨rfl, rfl⟩
  by_cases h5 : q.1 = q.2
  · have h5b : (q.1 == q.2) = true := by simp [h5]
    clear hn h5
    go_enter Try.func31, Try.ntmps31
    go_wp2
    go_ret
    exact ⟨rfl, rfl⟩
  · have h5b : (q.1 == q.2) = false := by simp [h5]
    have h6 : (1048576 : Int) < (n : Int) := by omega
    clear hn
    go_enter Try.func31, Try.ntmps31
    go_wp2
    go_ret
    exact ⟨rfl, rfl⟩
set_option maxHeartbeats 4000000 in
theorem refSend_any (h : Rn w x s E lost R B) (hB : B ≤ w.heap.size) (hR : R.length ≤ 100000) (hl0 : 0 ≤ lost) (hlo : lost ≤ 1000000000) (q : Pr) (A : Option Addr) (n c : Nat) (l : List UInt8) (hs : Sl w (.slice A n c) l) :
    Calls Try.prog 31 #[.pointer (some ⟨x, 0, none⟩), .int .i64 q.1, .int .i64 q.2, .slice A n c] w (RSend w x E lost R B q l) := by
  have hlen := hs.len
  by_cases hm : MaySend E q l
  rotate_left
  · refine (refSend_bad h q A n c (fun hh => hm ⟨hh.1, by rw [← hlen]; exact hh.2⟩)).mono ?_
    rintro e w' ⟨rfl, rfl⟩
    exact .inl ⟨hm, rfl, .same h (Below.refl _ _)⟩
  obtain ⟨iu, hu1, hu2, hu3, hu4⟩ := u8I
  have HM := Lib.hid hm
  obtain ⟨⟨g1, g2, g3, g4, g5⟩, g6⟩ := hm
  have h1 : ¬ q.1 < 1 := by omega
  have h2 : ¬ q.2 < 1 := by omega
  have h3 : ¬ E < q.1 := by omega
  have h4 : ¬ E < q.2 := by omega
  have h5b : (q.1 == q.2) = false := by simp [g5]
  have h6 : ¬ (1048576 : Int) < (n : Int) := by omega
  clear g1 g2 g3 g4 g5
  have c1 := h.c1
  have c2 := h.c2
  have hf2 := h.blk.frozen 2
  have hxl := h.blk.lt
  have HLN := Lib.hid (refLine_any h (by omega) q)
  have HS := Lib.hid hs
  have HH := Lib.hid h
  obtain ⟨m, hm⟩ : ∃ m, (lineOf R q).length = m := ⟨_, rfl⟩
  rw [hm] at HLN
  have HMM := Lib.hid hm
  have HL6 := Lib.hid (And.intro hlen g6)
  clear hm hs h hlen g6
  by_cases hf : 64 ≤ m
  · have hfI : (64 : Int) ≤ (m : Int) := by omega
    have hwr : IntKind.i64.wrap (lost + 1) = lost + 1 := by rw [IntKind.wrap_i64] <;> omega
    go_enter Try.func31, Try.ntmps31
    go_wp2_with (go_at_call 36; refine HLN.out.mono ?_; rintro e w2 ⟨rfl, hwd⟩; obtain rfl := hwd.symm)
    go_ret
    exact .inr (.inl ⟨HM.out, by rw [HMM.out]; exact hf, rfl, Keep.setCell _ ⟨x, 2, none⟩ _ rfl, s, HH.out.more (lost + 1)⟩)
  · have hfI : ¬ (64 : Int) ≤ (m : Int) := by omega
    have HLAY := Lib.hid (show ∀ Z t0 t1 t2, Below w.heap.size w Z → Own Z w.heap.size 5 (.slice t0 t1 t2) l → Calls Try.prog 48 #[.pointer (some ⟨x, 0, none⟩), .agg #[.int .i64 q.1, .int .i64 q.2, .slice t0 t1 t2]] Z fun e w' => e = .returned (.tuple #[]) ∧ RnEnd Z x E lost (lay R ⟨q, ((t0, t1, t2), l)⟩) B w' from fun Z t0 t1 t2 hZ ho => refLay_any (HH.out.below hZ) (Nat.le_trans hB hZ.size) hR q t0 t1 t2 l ho.sl (fun i hi => by
      obtain ⟨hb, cs, mm, hh⟩ := Own.typed (s := (t0, t1, t2)) ho i hi
      exact ⟨by omega, cs, mm, hh⟩))
    clear hB hR hlo hl0
    go_enter Try.func31, Try.ntmps31
    go_wp2_with (first | (go_at_call 36; refine HLN.out.mono ?_; rintro e w2 ⟨rfl, hwd⟩; obtain rfl := hwd.symm) | (at_builtin; refine wpList_append_bytes w rfl _ _ 37 rfl w.heap.size 5 iu rfl hu1 hu2 hu3 hu4 (.slice none 0 0) [] rfl Own.nil _ l rfl HS.out (by simp; have := HL6.out; omega) (Nat.le_refl _) ?_; intro v7 Z ho7 hb7; obtain ⟨t0, t1, t2, rfl⟩ := ho7.shape; have HO := Lib.hid ho7; clear ho7) | (go_at_call 48; refine (HLAY.out Z t0 t1 t2 hb7 HO.out).mono ?_; rintro e Z2 ⟨rfl, hr2⟩))
    go_ret
    exact .inr (.inr ⟨HM.out, by rw [HMM.out]; omega, rfl, _, RnEnd.pre hb7 hr2⟩)
end
end Go.Proofs.Ytellbmghahgjfaa

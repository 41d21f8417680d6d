/-
  The law's full: the files counted. The marks that ranges leave behind among the deferred calls.
-/
import Derived.Test.YtdbkhigocjmfoaaDskMx
namespace Go.Proofs.Ytdbkhigocjmfoaa
open Go.RowKit Go.Maps Go.Shelf
open DskM
set_option linter.unusedVariables false
set_option linter.unusedSimpArgs false
set_option maxRecDepth 100000
attribute [local go_sem] Oper.semAt_some

/-! Marks. -/
def mark (D : Nat) : Deferred := { target := .collected D, args := #[] }
def putAll (W : World) : List Nat → World
  | [] => W
  | D :: r => putAll (W.putObj D (.deferred none)) r
/-- The blocks of the marks: each later than the ones behind it, each open. -/
def Marks (B : Nat) (W : World) : List Nat → Prop
  | [] => True
  | D :: r => B ≤ D ∧ W.heap[D]? = some (.deferred (some [])) ∧ (∀ E ∈ r, E < D) ∧ Marks B W r
theorem Marks.open : ∀ {B : Nat} {W : World} {l : List Nat}, Marks B W l → ∀ D ∈ l, B ≤ D ∧ W.heap[D]? = some (.deferred (some []))
  | B, W, [], _, D, hD => by cases hD
  | B, W, E :: r, ⟨h1, h2, h3, h4⟩, D, hD => by
    rcases List.mem_cons.1 hD with rfl | hD
    · exact ⟨h1, h2⟩
    · exact h4.open D hD
theorem Marks.lt {B : Nat} {W : World} {l : List Nat} (h : Marks B W l) : ∀ D ∈ l, D < W.heap.size := fun D hD => (Array.getElem?_eq_some_iff.1 (h.open D hD).2).1
theorem Marks.kept : ∀ {B : Nat} {W W' : World} {l : List Nat}, Marks B W l → (∀ D ∈ l, W'.heap[D]? = W.heap[D]?) → Marks B W' l
  | _, _, _, [], _, _ => trivial
  | _, _, _, E :: r, ⟨h1, h2, h3, h4⟩, hk => ⟨h1, (hk E (List.mem_cons_self ..)).trans h2, h3, h4.kept (fun D hD => hk D (List.mem_cons_of_mem _ hD))⟩
theorem Marks.below {B : Nat} {W W' : World} {l : List Nat} (h : Marks B W l) (hb : Below W.heap.size W W') : Marks B W' l := h.kept (fun D hD => hb.block D (h.lt D hD))
theorem leaves_marks {F : Fence} {n : Nat} {P : Program} {fn : Func} {tmps : Array Value} {R : Ending → World → Prop} {B : Nat} : ∀ (l : List Nat) (W : World), Marks B W l → LeavesIn F n P fn tmps R [] .returning (putAll W l) → LeavesInM F n P fn tmps R (l.map mark) .returning W
  | [], W, _, h => h
  | D :: r, W, ⟨h1, h2, h3, h4⟩, h => by
    refine ⟨by simp, .inl ⟨D, _, rfl, run_takeDeferred h2, ?_⟩⟩
    refine leaves_marks r _ (h4.kept (fun E hE => ?_)) h
    have hlt := h3 E hE
    show (W.heap.setIfInBounds D _)[E]? = W.heap[E]?
    rw [Array.getElem?_setIfInBounds_ne (by omega)]
theorem putAll_below : ∀ (l : List Nat) {B : Nat} {w W : World}, B ≤ w.heap.size → Below B w W → (∀ D ∈ l, B ≤ D) → Below B w (putAll W l)
  | [], _, _, _, _, h, _ => h
  | D :: r, B, w, W, hB, h, hl => by
    refine putAll_below r hB (h.grown (grownBy_putObj' W D (.deferred none)) (Nat.le_trans hB h.size) (fun k e => ?_)) (fun E hE => hl E (List.mem_cons_of_mem _ hE))
    injection e with e
    have := hl D (List.mem_cons_self ..)
    omega
theorem putAll_blk : ∀ (l : List Nat) {B : Nat} {W : World} {g : Nat} {t : TypeId} {cs : Array Value}, Marks B W l → Blk W g t cs → Blk (putAll W l) g t cs
  | [], _, _, _, _, _, _, h => h
  | D :: r, B, W, g, t, cs, ⟨h1, h2, h3, h4⟩, h => by
    have hne : g ≠ D := by
      rintro rfl
      unfold Blk at h
      rw [h] at h2
      cases h2
    refine putAll_blk r (h4.kept (B := B) (W := W) (W' := W.putObj D (.deferred none)) (fun E hE => ?_)) ?_
    · have hlt := h3 E hE
      show (W.heap.setIfInBounds D _)[E]? = W.heap[E]?
      rw [Array.getElem?_setIfInBounds_ne (by omega)]
    · unfold Blk at h ⊢
      show (W.heap.setIfInBounds D _)[g]? = _
      rw [Array.getElem?_setIfInBounds_ne (by omega)]
      exact h
section
variable {w : World} {p m : Nat} {S : Ds} {L : List Fo}
def FuI (w0 : World) (hi : Nat) (L : List Fo) (pre : List (EntL L)) (W : World) : Prop :=
  Below w0.heap.size w0 W ∧ hi ≤ W.heap.size ∧ Blk W w0.heap.size 3 #[.int .i64 (pre.length : Int)]
theorem FuI.own {w0 : World} {hi : Nat} (h0 : w0.heap.size ≤ hi) : OwnFrom hi (FuI w0 hi L) := by
  rintro pre X Y row ⟨hb, hs, b1⟩ hg hr
  exact ⟨hb.grown hg hb.size (fun k e => by have := (hr k e).1; omega), Nat.le_trans hs hg.size, b1.own hg (fun r e => hr r e)⟩
set_option maxHeartbeats 4000000 in
theorem full_any (hd : Dk w p m S L) :
    Calls Try.prog 30 #[.pointer (some ⟨p, 0, none⟩)] w fun e w' => e = .returned (.bool (decide (L.length = 64))) ∧ Below w.heap.size w w' := by
  have hfn := func_nil
  have hb0 := al1 w (.cells #[.int .i64 0] 3)
  have hB0 := Blk.new w 3 #[.int .i64 0]
  obtain ⟨W0, hW0⟩ : ∃ W0, W0 = w.alloc (.cells #[.int .i64 0] 3) := ⟨_, rfl⟩
  rw [← hW0] at hb0 hB0
  have HFEW := Lib.hid hd.few
  have hd0 := hd.below hb0
  have HF0 := Lib.hid (files_any hd0)
  have HD0 := Lib.hid hd0
  have HB0 := Lib.hid hb0
  have HBB := Lib.hid hB0
  have HW0 := Lib.hid hW0
  clear hb0 hB0 hd0 hd hW0
  refine (callsIn_wide (n := 8)).1 ?_
  refine callsIn_of_wp_marks Try.func30 rfl trivial ?_ rfl
  simp only [Try.ntmps30, List.size_toArray, List.length_cons, List.length_nil, Nat.reduceAdd, Nat.reduceSub, Array.replicate_succ, Array.replicate_zero, List.push_toArray, List.append_toArray, List.nil_append, List.cons_append]
  gi_wp2_with fail
  rw [← HW0.out]
  refine ⟨trivial, (callsIn_wide.2 HF0.out).mono ?_⟩
  rintro e X1 ⟨rfl, _, hx1⟩
  have HX1 := Lib.hid hx1
  have HF1 := Lib.hid (files_any (HD0.out.below hx1))
  clear hx1
  gi_wp2_with fail
  refine ⟨trivial, (callsIn_wide.2 HF1.out).mono ?_⟩
  rintro e X2 ⟨rfl, hnt, hx2⟩
  have hni := hnt.at (Nat.le_refl _) (Nat.le_succ _)
  have hst := each_stops Fence.wide 7 trivial rfl (by omega) X1.heap.size (X1.heap.size + 1) X1.heap.size X2.heap.size (L.map Fo.nm) (L.map fun f => f.bs.length) (by simp) (by simp; exact HFEW.out) X2 (Nat.le_refl _) hni
  have HST := Lib.hid hst
  have hb02 : Below W0.heap.size W0 X2 := HX1.out.trans (hx2.mono HX1.out.size)
  have hwX : w.heap.size < X1.heap.size := Nat.lt_of_lt_of_le HBB.out.lt HX1.out.size
  have hi0 : FuI w X2.heap.size L [] X2 := ⟨HB0.out.trans (hb02.mono HB0.out.size), Nat.le_refl _, HBB.out.below hb02 HBB.out.lt⟩
  have HI0 := Lib.hid hi0
  have HXX := Lib.hid hx2
  clear hnt hni hst hi0 hb02 hx2 HF0 HF1
  gi_wp2_with fail
  refine' wpIn_rangeFunc_ownG rfl (by omega) (gf := 51) (lb := #[.pointer (some ⟨X1.heap.size, 0, none⟩), .pointer (some ⟨X1.heap.size + 1, 0, none⟩)]) rfl trivial (enters_of Try.func51 (by kernel_rfl) rfl)
    HST.out (fun {A B C} h k => Mid.trans h k) (Mid.putObj (Nat.le_refl _)) (Below.refl _ _) (fun _ => rfl)
    (FuI w X2.heap.size L) (fun _ _ _ => False) (FuI.own (by have := HXX.out.size; omega)) (fun _ _ _ _ _ hs _ _ => hs) HI0.out _ ?assign ?body ?done ?stop
  case assign =>
    intro l x W K hK
    dsimp only [encE]
    gi_wp2
    exact hK
  case stop =>
    intro D c pre W hD' _ h _
    exact h.elim
  case body =>
    intro l pre x W hI hlen
    obtain ⟨hb, hs, b1⟩ := hI
    have q3 : W.cell? ⟨w.heap.size, 0, none⟩ = some (.int .i64 (pre.length : Int)) := by rw [b1.cell]; rfl
    have f3 := b1.frozen 0
    have hpl : (pre.length : Int) < 64 := by have := HFEW.out; have e : (L.map Fo.nm).length = L.length := by simp
                                             omega
    have hpl0 : (0 : Int) ≤ (pre.length : Int) := by omega
    have hkk : Keep (fun i => i = w.heap.size) W (W.setCell ⟨w.heap.size, 0, none⟩ (.int .i64 ((pre.length : Int) + 1))) := Keep.setCell _ _ _ rfl
    have hkf := keepsFrom_of_keep (B := X2.heap.size) hkk (fun i e => by have := HXX.out.size; omega)
    have hmd : Mid X1.heap.size X2.heap.size W (W.setCell ⟨w.heap.size, 0, none⟩ (.int .i64 ((pre.length : Int) + 1))) := Mid.of_keep hkk hs (fun k h1 h2 e => by omega)
    have hI1 : FuI w X2.heap.size L (pre ++ [x]) (W.setCell ⟨w.heap.size, 0, none⟩ (.int .i64 ((pre.length : Int) + 1))) :=
      ⟨hb.setCell (p := ⟨w.heap.size, 0, none⟩) (Nat.le_refl _) _, Nat.le_trans hs hkk.size, by rw [List.length_append, List.length_singleton]; exact b1.set_ 0 _⟩
    have HE := Lib.hid (And.intro hkf (And.intro hmd hI1))
    clear hkf hmd hI1 hkk b1 hb hs
    gi_wp2
    exact ⟨HE.out.1, HE.out.2.1, HE.out.2.2⟩
  case done =>
    rintro D xs W hD' rfl ⟨hb, hs, b1⟩ hKd
    have hxl : (((L.map Fo.nm).zip (L.map fun f => f.bs.length)).attach).length = L.length := by simp
    rw [hxl] at b1
    have q3 : W.cell? ⟨w.heap.size, 0, none⟩ = some (.int .i64 (L.length : Int)) := by rw [b1.cell]; rfl
    have hbe := hb.grown (grownBy_putObj' W D (.deferred none)) hb.size (fun k e => by injection e with e; have := HXX.out.size; omega)
    have HE := Lib.hid hbe
    have HK := Lib.hid hKd
    clear hbe hKd hb hs b1
    by_cases hl : L.length = 64
    · have e1 : ((L.length : Int) == 64) = true := by rw [beq_iff_eq]; omega
      have e2 : decide (L.length = 64) = true := decide_eq_true hl
      have HE2 := Lib.hid e2
      rw [hl] at q3
      clear hl e2 e1
      gi_wp2
      refine ⟨by simp, .inl ⟨_, _, rfl, run_takeDeferred HK.out, ?_⟩⟩
      exact ⟨_, results_tmp rfl _ _ _, by rw [HE2.out]; rfl, HE.out⟩
    · have e1 : ((L.length : Int) == 64) = false := by rw [beq_eq_false_iff_ne]; omega
      have e2 : decide (L.length = 64) = false := decide_eq_false hl
      have HE2 := Lib.hid e2
      clear hl e2
      gi_wp2
      refine ⟨by simp, .inl ⟨_, _, rfl, run_takeDeferred HK.out, ?_⟩⟩
      exact ⟨_, results_tmp rfl _ _ _, by rw [HE2.out]; rfl, HE.out⟩
end
end Go.Proofs.Ytdbkhigocjmfoaa

/-
  A range over an iterator that ranges over another one: what a last round leaves is told too; a net's All over what is in flight.
-/
import Derived.Test.YtellbmghahgjfaaNfJ
namespace Go.Proofs.Ytellbmghahgjfaa
open Go.RowKit Go Go.Maps Go.WideShapes Go.WideMaps
open NetM
set_option linter.unusedVariables false
set_option linter.unusedSimpArgs false
set_option maxRecDepth 20000
attribute [local go_sem] Oper.semAt_some

/-- The iterator g with its captured lb hands over xs, one by one; its own steps leave alone what lay when it began. What a last round leaves is told too. -/
def SeqQ {α : Type} (F : Fence) (n : Nat) (P : Program) (g : Nat) (lb : Array Value) (encs : α → Array Value) (X : List α → α → World → Prop) (Kp Ks : World → World → Prop) (S Sp : List α → Prop) (N : Nat) (w : World) : Prop :=
  ∀ (l : Nat) (J Jx : List α → World → Prop) (W : World), Below w.heap.size w W → (∀ s A B, J s A → Below W.heap.size A B → J s B) → (∀ s A B, Jx s A → Below W.heap.size A B → Jx s B) →
    (∀ pre x W1, J pre W1 → X pre x W1 → pre.length < N → YieldAt F (n - 1) P l (encs x) W1 fun e W' => (e = .returned (.bool true) ∧ J (pre ++ [x]) W' ∧ Kp W1 W') ∨ (e = .returned (.bool false) ∧ Jx (pre ++ [x]) W' ∧ Ks W1 W')) →
    J [] W →
    CallsIn F n P g (#[.func (.yield l) #[] #[]] ++ lb) W fun e W' => (∃ v, e = .returned v) ∧ ((∃ xs, S xs ∧ J xs W') ∨ (∃ pre, Sp pre ∧ Jx pre W'))
section
variable {α : Type} {F : Fence} {n : Nat} {P : Program} {g : Operand} {ps : Array Tmp} {assign body : Code} {Q : Exit → Act → World → Prop} {a : Act} {w : World}
theorem range_q (hro : F.round = none) (h1 : 1 ≤ n) {gf : Nat} {lb : Array Value} (hg : a.eval g = .func (.func gf) #[] lb) (hFg : F.fn gf) (eg : ∀ args w, (callFunc gf args).run P w = .ok (.enter gf args) w)
    {encs : α → Array Value} {X : List α → α → World → Prop} {Kp Ks : World → World → Prop} {S Sp : List α → Prop} {N : Nat} {w0 : World} (hseq : SeqQ F (n - 1) P gf lb encs X Kp Ks S Sp N w0)
    (hKt : ∀ {A B C : World}, Kp A B → Kp B C → Kp A C) (hKb : ∀ (W : World) (o o' : Obj), W.heap[w.heap.size + 1]? = some o → o.isCells = false → o.isWalk = false → Kp W (W.putObj (w.heap.size + 1) o')) (hKs : ∀ (A B : World), KeepsFrom (w.heap.size + 2) A B → Ks A B) (hb0 : Below w0.heap.size w0 w) (hps : ∀ x, (encs x).size = ps.size) (hX : ∀ pre x W l (o o' : Obj), X pre x W → W.heap[l]? = some o → o.isCells = false → X pre x (W.putObj l o'))
    (I : List α → World → Prop) (Ix : Code → List α → World → Prop) (hI : Abs w.heap.size I) (hIx : ∀ c, Abs w.heap.size (Ix c)) (h0 : I [] w) (RR : List α → α → Act → World → Prop)
    (hRb : ∀ pre x a W l (o o' : Obj), RR pre x a W → w.heap.size ≤ l → W.heap[l]? = some o → o.isCells = false → o.isWalk = false → RR pre x a (W.putObj l o'))
    (hassign : ∀ (l : Nat) (pre : List α) (x : α) (W : World) (K : Act → World → Prop), I pre W → X pre x W → pre.length < N → (∀ a' W', KeepsFrom w.heap.size W W' → Kp W W' → RR pre x a' W' → K a' W') →
      assign.wpIn (F.inRound l) (n - 1 - 1) P (Exit.then K (fun _ _ _ => False)) { tmps := (ps.zip (encs x)).foldl (fun t (p, v) => t.setIfInBounds p v) a.tmps, defers := [] } W)
    (hbody : ∀ (l : Nat) (pre : List α) (x : α) (a' : Act) (W : World), RR pre x a' W → body.wpIn (F.inRound l) (n - 1 - 1) P (ownPostG w.heap.size Kp I Ix (pre ++ [x]) W) a' W)
    (hdone : ∀ (D : Nat) (xs : List α) (W : World), w.heap.size ≤ D → S xs → I xs W → W.heap[D]? = some (.deferred (some [])) → Q .normal { a with defers := { target := .collected D, args := #[] } :: a.defers } W)
    (hstop : ∀ (D : Nat) (c : Code) (pre : List α) (W : World), w.heap.size ≤ D → Sp pre → Ix c pre W → W.heap[D]? = some (.deferred (some [])) → c.wpIn F n P Q { a with defers := { target := .collected D, args := #[] } :: a.defers } W) :
    (Code.rangeFunc g ps assign body).wpIn F n P Q a w := by
  refine wpIn_rangeFunc fun fn hfn => ?_
  rw [hro]
  obtain ⟨L, hL⟩ : ∃ L : LoopState → Option Code → Loop, L = fun st pe => { state := st, pending := pe, fn, tmps := a.tmps, params := ps, assign, body, defers := w.heap.size } := ⟨_, rfl⟩
  have e1 := World.alloc_heap_new (w.alloc (.deferred (some []))) (.loop (L .ready none))
  have e2 := (Below.heap_alloc (w.alloc (.deferred (some []))) (.loop (L .ready none)) w.heap.size (by simp)).trans (World.alloc_heap_new w _)
  rw [World.size_alloc] at e1
  have hbk0 : Book w (L .ready none) ((w.alloc (.deferred (some []))).alloc (.loop (L .ready none))) := ⟨e1, e2⟩
  have hI0 := hI.more _ _ (.loop (L .ready none)) (hI.more _ _ (.deferred (some [])) h0)
  have hbw : Below w0.heap.size w0 ((w.alloc (.deferred (some []))).alloc (.loop (L .ready none))) := hb0.trans ((((Below.refl _ w).alloc (Nat.le_refl _) _).alloc (by simp) _).mono hb0.size)
  have hent := run_enterLoop_outer (P := P) (w := w) fn a.tmps ps assign body
  have hsz : ((w.alloc (.deferred (some []))).alloc (.loop (L .ready none))).heap.size = w.heap.size + 2 := by simp
  generalize hW : (w.alloc (.deferred (some []))).alloc (.loop (L .ready none)) = W1 at hbk0 hI0 hbw hsz
  refine ⟨w.heap.size + 1, [{ target := .collected w.heap.size, args := #[] }], W1, { target := .fn (.func gf) lb, args := #[.func (.yield (w.heap.size + 1)) #[] #[]] }, W1, gf, #[.func (.yield (w.heap.size + 1)) #[] #[]] ++ lb, W1,
    by rw [← hW, hL]; exact hent, by simp only [resolve, hg]; simp [go_sem], fun f' hf' => by simp [Target.leads] at hf'; subst hf'; exact hFg, by simp [invoke, go_sem, eg], fun _ => h1, ?_⟩
  clear hW hent e1 e2
  have hput : ∀ {J : List α → World → Prop} (hJ : Abs w.heap.size J) {s : List α} {W : World} {K : Loop} (K' : Loop), J s W → Book w K W → J s (W.putObj (w.heap.size + 1) (.loop K')) := fun hJ s W K K' hs hb => hJ.book _ _ _ _ _ hs (by omega) hb.loop rfl rfl
  have hend : ∀ (jump : Option Code) (W : World), Book w { L .ready none with state := .busy } W → (Instr.endRound (w.heap.size + 1) jump).run P W = .ok (.bool jump.isNone) (W.putObj (w.heap.size + 1) (.loop (L (if jump.isNone then .ready else .done) jump))) := fun jump W hb => by
    have := run_endRound (P := P) jump hb.loop
    rw [hL] at this ⊢
    exact this
  refine (hseq (w.heap.size + 1) (fun pre W => I pre W ∧ Book w (L .ready none) W) (fun pre W => ∃ c, Ix c pre W ∧ Book w (L .done (some c)) W) W1 hbw
    (fun s A B h hs => ⟨hI.step s A B h.1 (by rw [← hsz]; exact hs), h.2.quiet (by rw [← hsz]; exact hs)⟩) (fun s A B ⟨c, h, hb⟩ hs => ⟨c, (hIx c).step s A B h (by rw [← hsz]; exact hs), hb.quiet (by rw [← hsz]; exact hs)⟩) ?_ ⟨hI0, hbk0⟩).mono ?_
  · rintro pre x W ⟨hi, hb⟩ hx hlen
    have hy := run_yield (P := P) (args := encs x) hb.loop (by rw [hL]; exact hps x)
    rw [hL] at hy
    refine ⟨fn, _, assign, body, hy, roundIn_of_wpIn hfn (hassign _ pre x W _ hi hx hlen fun a' W' hkf hkp0 hrr => ⟨_, run_beginRound (hb.keeps hkf).loop (by rw [hL]), ?_⟩)⟩
    have hb1 := hb.keeps hkf
    have hb2 := hb1.put { L .ready none with state := .busy }
    have hk2 : Kp W (W'.putObj (w.heap.size + 1) (.loop { L .ready none with state := .busy })) := hKt hkp0 (hKb _ _ _ hb1.loop rfl rfl)
    refine wpIn_mono (hbody _ pre x a' _ (hRb _ _ _ _ _ _ _ hrr (by omega) hb1.loop rfl rfl)) ?_
    have hkp2 : ∀ (A : World) (o' : Obj), KeepsFrom (w.heap.size + 2) A (A.putObj (w.heap.size + 1) o') := fun A o' => ⟨Nat.le_of_eq (by unfold World.putObj; simp), fun k o hk ho _ => (World.putObj_heap_other (by omega)).trans ho⟩
    have hks : ∀ (c : Code) (W3 : World), KeepsFrom w.heap.size (W'.putObj (w.heap.size + 1) (.loop { L .ready none with state := .busy })) W3 → Ks W (W3.putObj (w.heap.size + 1) (.loop (L .done (some c)))) := fun c W3 hk => by
      have kd : ∀ {A C : World}, KeepsFrom w.heap.size A C → KeepsFrom (w.heap.size + 2) A C := fun h => ⟨h.size, fun k o hk ho hc => h.same k o (by omega) ho hc⟩
      exact hKs _ _ ((((kd hkf).trans (hkp2 _ _)).trans (kd hk)).trans (hkp2 _ _))
    have out : ∀ (c : Code) (W3 : World), KeepsFrom w.heap.size (W'.putObj (w.heap.size + 1) (.loop { L .ready none with state := .busy })) W3 → Ix c (pre ++ [x]) W3 →
        ∃ c', Ix c' (pre ++ [x]) (W3.putObj (w.heap.size + 1) (.loop (L .done (some c)))) ∧ Book w (L .done (some c')) (W3.putObj (w.heap.size + 1) (.loop (L .done (some c)))) := fun c W3 hk hx =>
      ⟨c, hput (hIx c) _ hx (hb2.keeps hk), (hb2.keeps hk).put _⟩
    rintro e a3 W3 hp
    cases e with
    | normal =>
      obtain ⟨hk, hkp, hi3⟩ := hp
      have hb3 := hb2.keeps hk
      exact ⟨_, _, hend none W3 hb3, .inl ⟨rfl, ⟨hput hI _ hi3 hb3, hb3.put _⟩, hKt (hKt hk2 hkp) (hKb _ _ _ hb3.loop rfl rfl)⟩⟩
    | ret => exact ⟨_, _, hend (some .ret) W3 (hb2.keeps hp.1), .inr ⟨rfl, out _ W3 hp.1 hp.2, hks _ W3 hp.1⟩⟩
    | exit id => exact ⟨_, _, hend (some (.exit id)) W3 (hb2.keeps hp.1), .inr ⟨rfl, out _ W3 hp.1 hp.2, hks _ W3 hp.1⟩⟩
    | goto t => exact ⟨_, _, hend (some (.goto t)) W3 (hb2.keeps hp.1), .inr ⟨rfl, out _ W3 hp.1 hp.2, hks _ W3 hp.1⟩⟩
    | panic ch => exact hp.elim
    | outgrown => exact hp.elim
  · rintro e W2 ⟨⟨v, rfl⟩, (⟨xs, hS, hi, hb⟩ | ⟨pre, hSp, c, hi, hb⟩)⟩
    · have := run_endLoop (P := P) hb.loop (by rw [hL]; simp)
      rw [hL] at this
      exact ⟨none, _, this, hdone _ xs _ (Nat.le_refl _) hS (hI.book _ _ _ _ _ hi (by omega) hb.loop rfl rfl) ((World.putObj_heap_other (by omega)).trans hb.mark)⟩
    · have := run_endLoop (P := P) hb.loop (by rw [hL]; simp)
      rw [hL] at this
      exact ⟨some c, _, this, hstop _ c pre _ (Nat.le_refl _) hSp ((hIx c).book _ _ _ _ _ hi (by omega) hb.loop rfl rfl) ((World.putObj_heap_other (by omega)).trans hb.mark)⟩
end
end Go.Proofs.Ytellbmghahgjfaa

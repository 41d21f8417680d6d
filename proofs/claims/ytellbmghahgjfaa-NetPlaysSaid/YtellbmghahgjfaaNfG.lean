/-
  Each act, done to the program's net, and to the document's: what it answers, what it leaves; that both agree.
-/
import Derived.Test.YtellbmghahgjfaaNfF
import Derived.Test.YtellbmghahgjfaaNetP
namespace Go.Proofs.Ytellbmghahgjfaa
open Go.RowKit Go.Maps
open NetM
set_option linter.unusedVariables false
set_option linter.unusedSimpArgs false
set_option maxRecDepth 20000
/-- Both nets, side by side. -/
structure Two (B : Nat) (W : World) (p b x : Nat) (E lv : Int) (V : List (Fl Pl)) (lr : Int) (R : List (Fl Pl)) : Prop where
  nt : ∃ K G, Nt W p b E lv K V G ∧ ∀ i, G i → B ≤ i
  rf : ∃ s, Rn W x s E lr R B
  hp : B ≤ p
  hb : B ≤ b
section
variable {w w' W W' : World} {B p b x : Nat} {E lv lr : Int} {V R V' R' : List (Fl Pl)} {S : Nat → Prop}
theorem Two.kept (h : Two B w p b x E lv V lr R) (k : Keep S w w') (hp : ¬ S p) (hb : ¬ S b) (hx : ¬ S x) (hS : Off w S) : Two B w' p b x E lv V lr R := by
  obtain ⟨K, G, hn, hG⟩ := h.nt
  obtain ⟨s, hr⟩ := h.rf
  refine ⟨⟨K, G, hn.kept k hp hb fun i hi hs => ?_, hG⟩, ⟨s, hr.kept k hx hS⟩, h.hp, h.hb⟩
  obtain ⟨cs, t, m, hh, ht⟩ := hn.gty i hi
  have := hS i hs _ _ _ hh
  rcases ht with rfl | rfl
  · exact this.2.1 rfl
  · exact this.2.2 rfl
theorem Two.below (h : Two B w p b x E lv V lr R) (hb : Below w.heap.size w w') : Two B w' p b x E lv V lr R := h.kept (S := fun _ => False) (.of_below hb) (fun h => h) (fun h => h) (fun h => h) (Off.none w)
theorem Two.few (h : Two B w p b x E lv V lr R) : V.length ≤ 16384 := by
  obtain ⟨K, G, hn, hG⟩ := h.nt
  exact hn.ls.few
theorem Two.xb (h : Two B w p b x E lv V lr R) : B ≤ x := by
  obtain ⟨s, hr⟩ := h.rf
  exact hr.xb
theorem Two.off (h : Two B w p b x E lv V lr R) : Off w (Of3 p b x) := by
  obtain ⟨K, G, hn, hG⟩ := h.nt
  obtain ⟨s, hr⟩ := h.rf
  rintro i (hi | hi)
  · exact hn.offp i hi
  · exact hr.offx i hi
theorem Two.prog (h : Two B W p b x E lv V lr R) (hB : B ≤ W.heap.size) {lv' : Int} {K : Kl} {G : Nat → Prop} (hn : Nt W p b E lv K V G) (hG : ∀ i, G i → B ≤ i) (t : Turn W p b E lv' V' G W') : Keep (Of3 p b x) W W' ∧ Two B W' p b x E lv' V' lr R := by
  obtain ⟨s, hr⟩ := h.rf
  obtain ⟨hk, K', G', hn', hm⟩ := t
  refine ⟨hk.mono fun i hi => .inl hi, ⟨K', G', hn', fun i hi => ?_⟩, ⟨s, hr.kept hk (hn.px hr) hn.offp⟩, h.hp, h.hb⟩
  rcases hm i hi with h1 | h1
  · exact hG i h1
  · omega
theorem Two.ref (h : Two B W p b x E lv V lr R) {lr' : Int} {s : Sv} (hr : Rn W x s E lr R B) (t : RnEnd W x E lr' R' B W') : Keep (Of3 p b x) W W' ∧ Two B W' p b x E lv V lr' R' := by
  obtain ⟨K, G, hn, hG⟩ := h.nt
  obtain ⟨hk, s', hr'⟩ := t
  refine ⟨hk.mono fun i hi => .inr hi, ⟨K, G, hn.kept hk (fun e => hn.px hr (.inl e.symm)) (fun e => hn.px hr (.inr e.symm)) fun i hi e => ?_, hG⟩, ⟨s', hr'⟩, h.hp, h.hb⟩
  obtain ⟨cs, t, m, hh, ht⟩ := hn.gty i hi
  have := hr.offx i e _ _ _ hh
  rcases ht with rfl | rfl
  · exact this.2.1 rfl
  · exact this.2.2 rfl
end
/-- What a sending answers, and leaves. -/
def SendR (E lv : Int) (V : List (Fl Pl)) (q : Pr) (l : List UInt8) (c lv' : Int) (V' : List (Fl Pl)) : Prop :=
  (¬ MaySend E q l ∧ c = 2 ∧ lv' = lv ∧ V' = V) ∨ (MaySend E q l ∧ 64 ≤ (lineOf V q).length ∧ c = 5 ∧ lv' = lv + 1 ∧ V' = V) ∨ (MaySend E q l ∧ (lineOf V q).length < 64 ∧ c = 0 ∧ lv' = lv ∧ ∃ s, V' = lay V ⟨q, (s, l)⟩)
theorem SendR.agree {E lv lr c d lv' lr' : Int} {V R V' R' : List (Fl Pl)} {q : Pr} {l : List UInt8} (h : SendR E lv V q l c lv' V') (k : SendR E lr R q l d lr' R') (hl : lv = lr) (he : pv V = pv R) : c = d ∧ lv' = lr' ∧ pv V' = pv R' := by
  have hq := pv_lines he q
  rcases h with ⟨h1, rfl, rfl, rfl⟩ | ⟨h1, h2, rfl, rfl, rfl⟩ | ⟨h1, h2, rfl, rfl, s, rfl⟩ <;> rcases k with ⟨k1, rfl, rfl, rfl⟩ | ⟨k1, k2, rfl, rfl, rfl⟩ | ⟨k1, k2, rfl, rfl, t, rfl⟩
  · exact ⟨rfl, hl, he⟩
  · exact absurd k1 h1
  · exact absurd k1 h1
  · exact absurd h1 k1
  · exact ⟨rfl, by omega, he⟩
  · omega
  · exact absurd h1 k1
  · omega
  · exact ⟨rfl, hl, by rw [pv_lay, pv_lay, he]⟩
theorem SendR.le {E lv c lv' : Int} {V V' : List (Fl Pl)} {q : Pr} {l : List UInt8} (h : SendR E lv V q l c lv' V') : lv' ≤ lv + 1 := by
  rcases h with ⟨_, _, rfl, _⟩ | ⟨_, _, _, rfl, _⟩ | ⟨_, _, _, rfl, _⟩ <;> omega
/-- What a taking answers, and leaves. -/
def TakeR (V : List (Fl Pl)) (z c : Int) (q : Pr) (l : List UInt8) (V' : List (Fl Pl)) : Prop :=
  (((z < 0 ∧ c = 2) ∨ ((V.length : Int) ≤ z ∧ c = 6)) ∧ q = (0, 0) ∧ l = [] ∧ V' = V) ∨ ∃ i, ∃ h : i < V.length, z = (i : Int) ∧ c = 0 ∧ q = V[i].p ∧ l = V[i].x.2 ∧ V' = V.eraseIdx i
theorem TakeR.agree {z c d : Int} {V R V' R' : List (Fl Pl)} {q r : Pr} {l m : List UInt8} (h : TakeR V z c q l V') (k : TakeR R z d r m R') (he : pv V = pv R) : c = d ∧ q = r ∧ l = m ∧ pv V' = pv R' := by
  have hl := pv_lens he
  rcases h with ⟨hc, rfl, rfl, rfl⟩ | ⟨i, hi, rfl, rfl, rfl, rfl, rfl⟩ <;> rcases k with ⟨kc, rfl, rfl, rfl⟩ | ⟨j, hj, kz, rfl, rfl, rfl, rfl⟩
  · exact ⟨by omega, rfl, rfl, he⟩
  · omega
  · omega
  · obtain rfl : i = j := by omega
    have := pv_at he i hi hj
    exact ⟨rfl, this.1, this.2, by rw [pv_erase, pv_erase, he]⟩
/-- What a doubling answers, and leaves. -/
def DoubleR (V : List (Fl Pl)) (z c : Int) (V' : List (Fl Pl)) : Prop :=
  (((z < 0 ∧ c = 2) ∨ ((V.length : Int) ≤ z ∧ c = 6)) ∧ V' = V) ∨ ∃ i, ∃ h : i < V.length, z = (i : Int) ∧ ((64 ≤ (lineOf V V[i].p).length ∧ c = 5 ∧ V' = V) ∨ ((lineOf V V[i].p).length < 64 ∧ c = 0 ∧ ∃ s, V' = lay V ⟨V[i].p, (s, V[i].x.2)⟩))
theorem DoubleR.agree {z c d : Int} {V R V' R' : List (Fl Pl)} (h : DoubleR V z c V') (k : DoubleR R z d R') (he : pv V = pv R) : c = d ∧ pv V' = pv R' := by
  have hl := pv_lens he
  rcases h with ⟨hc, rfl⟩ | ⟨i, hi, rfl, hc⟩ <;> rcases k with ⟨kc, rfl⟩ | ⟨j, hj, kz, kc⟩
  · exact ⟨by omega, he⟩
  · omega
  · omega
  · obtain rfl : i = j := by omega
    have ha := pv_at he i hi hj
    have hq := pv_lines he V[i].p
    rw [← ha.1] at kc
    rcases hc with ⟨h1, rfl, rfl⟩ | ⟨h1, rfl, s, rfl⟩ <;> rcases kc with ⟨k1, rfl, rfl⟩ | ⟨k1, rfl, t, rfl⟩
    · exact ⟨rfl, he⟩
    · omega
    · omega
    · exact ⟨rfl, by rw [pv_lay, pv_lay, he, ha.2]⟩
section
variable {w w' W W' : World} {B p b x : Nat} {E lv lr : Int} {V R V' R' : List (Fl Pl)} {S : Nat → Prop}
/-- An act that answers a number. -/
def NumE (W : World) (p b x : Nat) (M : Int → World → Prop) (e : Ending) (W' : World) : Prop := ∃ c, e = .returned (.int .i64 c) ∧ Keep (Of3 p b x) W W' ∧ M c W'
/-- An act that answers a flight and a number. -/
def FliE (W : World) (p b x : Nat) (M : Int → Pr → List UInt8 → World → Prop) (e : Ending) (W' : World) : Prop := ∃ c q t0 t1 t2 l, e = .returned (.tuple #[.agg #[.int .i64 (Prod.fst q), .int .i64 (Prod.snd q), .slice t0 t1 t2], .int .i64 c]) ∧ Keep (Of3 p b x) W W' ∧ Sl W' (.slice t0 t1 t2) l ∧ (∀ i, InB (t0, t1, t2) i → ∃ cs m, W'.heap[i]? = some (.cells cs 5 m)) ∧ M c q l W'
theorem two_send (h : Two B W p b x E lv V lr R) (hB : B ≤ W.heap.size) (hlo : lv ≤ 1000000000) (q : Pr) (A : Option Addr) (n c : Nat) (l : List UInt8) (hs : Sl W (.slice A n c) l) :
    Calls Try.prog 17 #[.pointer (some ⟨p, 0, none⟩), .int .i64 q.1, .int .i64 q.2, .slice A n c] W (NumE W p b x fun c W' => ∃ lv' V', Two B W' p b x E lv' V' lr R ∧ SendR E lv V q l c lv' V') := by
  obtain ⟨K, G, hn, hG⟩ := h.nt
  by_cases hm : MaySend E q l
  · refine (send_any hn q _ l hs hm (by omega)).mono fun e w' he => ?_
    rcases he with ⟨h1, rfl, ht⟩ | ⟨h1, rfl, s, ht⟩
    · obtain ⟨k, t⟩ := h.prog hB hn hG ht
      exact ⟨5, rfl, k, _, _, t, .inr (.inl ⟨hm, h1, rfl, rfl, rfl⟩)⟩
    · obtain ⟨k, t⟩ := h.prog hB hn hG ht
      exact ⟨0, rfl, k, _, _, t, .inr (.inr ⟨hm, h1, rfl, rfl, s, rfl⟩)⟩
  · refine (send_bad hn q _ l hs hm).mono fun e w' ⟨he, hb⟩ => ?_
    exact ⟨2, he, .of_below hb, _, _, h.below hb, .inl ⟨hm, rfl, rfl, rfl⟩⟩
theorem two_refSend (h : Two B W p b x E lv V lr R) (hB : B ≤ W.heap.size) (hR : R.length ≤ 100000) (hl0 : 0 ≤ lr) (hlo : lr ≤ 1000000000) (q : Pr) (A : Option Addr) (n c : Nat) (l : List UInt8) (hs : Sl W (.slice A n c) l) :
    Calls Try.prog 31 #[.pointer (some ⟨x, 0, none⟩), .int .i64 q.1, .int .i64 q.2, .slice A n c] W (NumE W p b x fun c W' => ∃ lr' R', Two B W' p b x E lv V lr' R' ∧ SendR E lr R q l c lr' R') := by
  obtain ⟨s, hr⟩ := h.rf
  refine (refSend_any hr hB hR hl0 hlo q A n c l hs).mono fun e w' he => ?_
  rcases he with ⟨h1, rfl, ht⟩ | ⟨h1, h2, rfl, ht⟩ | ⟨h1, h2, rfl, t, ht⟩
  · obtain ⟨k, t⟩ := h.ref hr ht
    exact ⟨2, rfl, k, _, _, t, .inl ⟨h1, rfl, rfl, rfl⟩⟩
  · obtain ⟨k, t⟩ := h.ref hr ht
    exact ⟨5, rfl, k, _, _, t, .inr (.inl ⟨h1, h2, rfl, rfl, rfl⟩)⟩
  · obtain ⟨k, t'⟩ := h.ref hr ht
    exact ⟨0, rfl, k, _, _, t', .inr (.inr ⟨h1, h2, rfl, rfl, t, rfl⟩)⟩
theorem place (V : List (Fl Pl)) (z : Int) : (∃ c : Int, (c ≠ 0) ∧ ((z < 0 ∧ c = 2) ∨ ((V.length : Int) ≤ z ∧ c = 6))) ∨ ∃ i : Nat, i < V.length ∧ z = (i : Int) := by
  rcases (show z < 0 ∨ 0 ≤ z by omega) with h0 | h0
  · exact .inl ⟨2, by decide, .inl ⟨h0, rfl⟩⟩
  · obtain ⟨i, rfl⟩ := Int.eq_ofNat_of_zero_le h0
    rcases Nat.lt_or_ge i V.length with h1 | h1
    · exact .inr ⟨i, h1, rfl⟩
    · exact .inl ⟨6, by decide, .inr ⟨by omega, rfl⟩⟩
theorem no_find {K : Kl} {G : Nat → Prop} (hn : Nt W p b E lv K V G) (z c : Int) (hz : z ≤ 9223372036854775807) (hc : (z < 0 ∧ c = 2) ∨ ((V.length : Int) ≤ z ∧ c = 6)) : NoFind W (.pointer (some ⟨p, 0, none⟩)) z c := by
  rcases hc with ⟨h0, rfl⟩ | ⟨h0, rfl⟩
  · exact find_neg hn z h0
  · obtain ⟨i, rfl⟩ := Int.eq_ofNat_of_zero_le (show 0 ≤ z by omega)
    exact find_out hn i (by omega) hz
theorem none_in (i : Nat) (h : InB (none, 0, 0) i) {P : Prop} : P := by
  obtain ⟨a, ha, _⟩ := h
  cases ha
theorem two_take (h : Two B W p b x E lv V lr R) (hB : B ≤ W.heap.size) (z : Int) (hz : z ≤ 9223372036854775807) :
    Calls Try.prog 19 #[.pointer (some ⟨p, 0, none⟩), .int .i64 z] W (FliE W p b x fun c q l W' => ∃ V', Two B W' p b x E lv V' lr R ∧ TakeR V z c q l V') := by
  obtain ⟨K, G, hn, hG⟩ := h.nt
  rcases place V z with ⟨c, hc0, hc⟩ | ⟨i, hi, rfl⟩
  · refine (take_bad (no_find hn z c hz hc) hc0).mono fun e w' ⟨he, hb⟩ => ?_
    exact ⟨c, (0, 0), none, 0, 0, [], he, .of_below hb, Sl.nil _ _, fun i hi => none_in i hi, V, h.below hb, .inl ⟨hc, rfl, rfl, rfl⟩⟩
  · refine (take_any hn i hi).mono fun e w' he => ?_
    obtain ⟨⟨A, n, c⟩, rfl, ho, ht⟩ := he
    obtain ⟨k, t⟩ := h.prog hB hn hG ht
    exact ⟨0, _, A, n, c, _, rfl, k, ho.sl, fun j hj => (Own.typed ho j hj).2, _, t, .inr ⟨i, hi, rfl, rfl, rfl, rfl, rfl⟩⟩
theorem two_at (h : Two B W p b x E lv V lr R) (z : Int) (hz : z ≤ 9223372036854775807) :
    Calls Try.prog 18 #[.pointer (some ⟨p, 0, none⟩), .int .i64 z] W (FliE W p b x fun c q l W' => Below W.heap.size W W' ∧ ∃ V', TakeR V z c q l V') := by
  obtain ⟨K, G, hn, hG⟩ := h.nt
  rcases place V z with ⟨c, hc0, hc⟩ | ⟨i, hi, rfl⟩
  · refine (at_bad (no_find hn z c hz hc) hc0).mono fun e w' ⟨he, hb⟩ => ?_
    exact ⟨c, (0, 0), none, 0, 0, [], he, .of_below hb, Sl.nil _ _, fun i hi => none_in i hi, hb, V, .inl ⟨hc, rfl, rfl, rfl⟩⟩
  · refine (at_any hn i hi).mono fun e w' he => ?_
    obtain ⟨⟨A, n, c⟩, rfl, ho, hb⟩ := he
    exact ⟨0, _, A, n, c, _, rfl, .of_below hb, ho.sl, fun j hj => (Own.typed ho j hj).2, hb, _, .inr ⟨i, hi, rfl, rfl, rfl, rfl, rfl⟩⟩
theorem two_refAt (h : Two B W p b x E lv V lr R) (hR : R.length ≤ 100000) (z : Int) :
    Calls Try.prog 35 #[.pointer (some ⟨x, 0, none⟩), .int .i64 z] W (FliE W p b x fun c q l W' => Below W.heap.size W W' ∧ ∃ V', TakeR R z c q l V') := by
  obtain ⟨s, hr⟩ := h.rf
  rcases place R z with ⟨c, hc0, hc⟩ | ⟨i, hi, rfl⟩
  · refine (refAt_bad hr z c hc).mono fun e w' ⟨he, hb⟩ => ?_
    exact ⟨c, (0, 0), none, 0, 0, [], he, .of_below hb, Sl.nil _ _, fun i hi => none_in i hi, hb, R, .inl ⟨hc, rfl, rfl, rfl⟩⟩
  · have hm := List.getElem_mem hi
    have h1 := hr.by_ _ hm
    have h2 := hr.inb _ hm
    refine (refAt_any hr i hi (by omega)).mono fun e w' ⟨he, hb⟩ => ?_
    obtain ⟨⟨A, n, c⟩, hs⟩ : ∃ s, R[i].x.1 = s := ⟨_, rfl⟩
    rw [hs] at he h1 h2
    exact ⟨0, _, A, n, c, _, he, .of_below hb, h1.below hb, fun j hj => by obtain ⟨_, cs, m, hh⟩ := h2 j hj; exact ⟨cs, m, (hb.block j (Array.getElem?_eq_some_iff.1 hh).1).trans hh⟩, hb, _, .inr ⟨i, hi, rfl, rfl, rfl, rfl, rfl⟩⟩
theorem two_refTake (h : Two B W p b x E lv V lr R) (hB : B ≤ W.heap.size) (hR : R.length ≤ 100000) (z : Int) :
    Calls Try.prog 32 #[.pointer (some ⟨x, 0, none⟩), .int .i64 z] W (FliE W p b x fun c q l W' => ∃ R', Two B W' p b x E lv V lr R' ∧ TakeR R z c q l R') := by
  obtain ⟨s, hr⟩ := h.rf
  rcases place R z with ⟨c, hc0, hc⟩ | ⟨i, hi, rfl⟩
  · refine (refTake_bad hr z c hc).mono fun e w' ⟨he, hb⟩ => ?_
    exact ⟨c, (0, 0), none, 0, 0, [], he, .of_below hb, Sl.nil _ _, fun i hi => none_in i hi, R, h.below hb, .inl ⟨hc, rfl, rfl, rfl⟩⟩
  · have hm := List.getElem_mem hi
    have h1 := hr.by_ _ hm
    have h2 := hr.inb _ hm
    refine (refTake_any hr hB hR i hi).mono fun e w' ⟨he, ht⟩ => ?_
    obtain ⟨k, t⟩ := h.ref hr ht
    have hty : ∀ j, InB R[i].x.1 j → ¬ j = x := fun j hj e => by
      obtain ⟨_, cs, m, hh⟩ := h2 j hj
      exact (hr.offx j e _ _ _ hh).2.1 rfl
    have h1' := InB.sl h1 ht.1 hty
    obtain ⟨⟨A, n, c⟩, hs⟩ : ∃ s, R[i].x.1 = s := ⟨_, rfl⟩
    rw [hs] at he h1' h2 hty
    exact ⟨0, _, A, n, c, _, he, k, h1', fun j hj => by obtain ⟨_, cs, m, hh⟩ := h2 j hj; exact ⟨cs, m, (ht.1.block j (Array.getElem?_eq_some_iff.1 hh).1 (hty j hj)).trans hh⟩, _, t, .inr ⟨i, hi, rfl, rfl, rfl, rfl, rfl⟩⟩
theorem two_drop (h : Two B W p b x E lv V lr R) (hB : B ≤ W.heap.size) (z : Int) (hz : z ≤ 9223372036854775807) :
    Calls Try.prog 28 #[.pointer (some ⟨p, 0, none⟩), .int .i64 z] W (NumE W p b x fun c W' => ∃ q l V', Two B W' p b x E lv V' lr R ∧ TakeR V z c q l V') := by
  obtain ⟨K, G, hn, hG⟩ := h.nt
  rcases place V z with ⟨c, hc0, hc⟩ | ⟨i, hi, rfl⟩
  · refine (drop_bad (no_find hn z c hz hc) hc0).mono fun e w' ⟨he, hb⟩ => ?_
    exact ⟨c, he, .of_below hb, (0, 0), [], V, h.below hb, .inl ⟨hc, rfl, rfl, rfl⟩⟩
  · refine (drop_any hn i hi).mono fun e w' ⟨he, ht⟩ => ?_
    obtain ⟨k, t⟩ := h.prog hB hn hG ht
    exact ⟨0, he, k, _, _, _, t, .inr ⟨i, hi, rfl, rfl, rfl, rfl, rfl⟩⟩
theorem two_double (h : Two B W p b x E lv V lr R) (hB : B ≤ W.heap.size) (z : Int) (hz : z ≤ 9223372036854775807) :
    Calls Try.prog 21 #[.pointer (some ⟨p, 0, none⟩), .int .i64 z] W (NumE W p b x fun c W' => ∃ V', Two B W' p b x E lv V' lr R ∧ DoubleR V z c V') := by
  obtain ⟨K, G, hn, hG⟩ := h.nt
  rcases place V z with ⟨c, hc0, hc⟩ | ⟨i, hi, rfl⟩
  · refine (double_bad (no_find hn z c hz hc) hc0).mono fun e w' ⟨he, hb⟩ => ?_
    exact ⟨c, he, .of_below hb, V, h.below hb, .inl ⟨hc, rfl⟩⟩
  · refine (double_any hn i hi).mono fun e w' he => ?_
    rcases he with ⟨h1, rfl, ht⟩ | ⟨h1, rfl, s, ht⟩
    · rw [Int.add_zero] at ht
      obtain ⟨k, t⟩ := h.prog hB hn hG ht
      exact ⟨5, rfl, k, _, t, .inr ⟨i, hi, rfl, .inl ⟨h1, rfl, rfl⟩⟩⟩
    · obtain ⟨k, t⟩ := h.prog hB hn hG ht
      exact ⟨0, rfl, k, _, t, .inr ⟨i, hi, rfl, .inr ⟨h1, rfl, s, rfl⟩⟩⟩
theorem two_refDouble (h : Two B W p b x E lv V lr R) (hB : B ≤ W.heap.size) (hR : R.length ≤ 100000) (z : Int) :
    Calls Try.prog 33 #[.pointer (some ⟨x, 0, none⟩), .int .i64 z] W (NumE W p b x fun c W' => ∃ R', Two B W' p b x E lv V lr R' ∧ DoubleR R z c R') := by
  obtain ⟨s, hr⟩ := h.rf
  rcases place R z with ⟨c, hc0, hc⟩ | ⟨i, hi, rfl⟩
  · refine (refDouble_bad hr z c hc).mono fun e w' ⟨he, hb⟩ => ?_
    exact ⟨c, he, .of_below hb, R, h.below hb, .inl ⟨hc, rfl⟩⟩
  · refine (refDouble_any hr hB hR i hi).mono fun e w' he => ?_
    rcases he with ⟨h1, rfl, ht⟩ | ⟨h1, rfl, ht⟩
    · obtain ⟨k, t⟩ := h.ref hr ht
      exact ⟨5, rfl, k, _, t, .inr ⟨i, hi, rfl, .inl ⟨h1, rfl, rfl⟩⟩⟩
    · obtain ⟨k, t⟩ := h.ref hr ht
      exact ⟨0, rfl, k, _, t, .inr ⟨i, hi, rfl, .inr ⟨h1, rfl, R[i].x.1, rfl⟩⟩⟩
theorem two_clear (h : Two B W p b x E lv V lr R) (hB : B ≤ W.heap.size) (en : Int) :
    Calls Try.prog 24 #[.pointer (some ⟨p, 0, none⟩), .int .i64 en] W (NumE W p b x fun c W' => c = (V.length : Int) - ((clear V en).length : Int) ∧ Two B W' p b x E lv (clear V en) lr R) := by
  obtain ⟨K, G, hn, hG⟩ := h.nt
  refine (clear_any hn en).mono fun e w' ⟨he, ht⟩ => ?_
  obtain ⟨k, t⟩ := h.prog hB hn hG ht
  exact ⟨_, he, k, rfl, t⟩
theorem two_refClear (h : Two B W p b x E lv V lr R) (hB : B ≤ W.heap.size) (hR : R.length ≤ 100000) (en : Int) :
    Calls Try.prog 34 #[.pointer (some ⟨x, 0, none⟩), .int .i64 en] W (NumE W p b x fun c W' => c = (R.length : Int) - ((clear R en).length : Int) ∧ Two B W' p b x E lv V lr (clear R en)) := by
  obtain ⟨s, hr⟩ := h.rf
  refine (refClear_any hr hB hR en).mono fun e w' ⟨he, ht⟩ => ?_
  obtain ⟨k, t⟩ := h.ref hr ht
  exact ⟨_, he, k, rfl, t⟩
theorem two_len (h : Two B W p b x E lv V lr R) : Calls Try.prog 20 #[.pointer (some ⟨p, 0, none⟩)] W fun e W' => e = .returned (.int .i64 (V.length : Int)) ∧ Below W.heap.size W W' := by
  obtain ⟨K, G, hn, hG⟩ := h.nt
  exact len_any hn
end
end Go.Proofs.Ytellbmghahgjfaa

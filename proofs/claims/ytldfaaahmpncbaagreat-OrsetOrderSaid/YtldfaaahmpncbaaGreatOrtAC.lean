/-
  A set of the program's that has the document's state, with all blocks that it stands in; what each call answers and leaves of it.
-/
import Derived.Test.YtldfaaahmpncbaaGreatOrtAB
import Derived.Test.YtldfaaahmpncbaaGreatOrsAA
import Derived.Test.YtldfaaahmpncbaaGreatOrsAB
import Derived.Test.YtldfaaahmpncbaaGreatOrsAE
namespace Go.Proofs.YtldfaaahmpncbaaGreat
open Go.RowKit Go.Maps
open CtxM
set_option linter.unusedVariables false
set_option linter.unusedSimpArgs false
set_option maxRecDepth 20000

/-- A set at p with the document's state D; F holds of just the blocks that it stands in. -/
structure OsF (w : World) (p : Nat) (D : St) (F : Nat → Prop) : Prop where
  ex : ∃ g v b1 b2 K T, Os w p g v D.S.1 D.S.2 b1 b2 K T ∧ Rep D.I K T ∧ ∀ i, F i ↔ (i = p ∨ i = b1 ∨ i = b2 ∨ Foot g v i)
  good : Good D
/-- The blocks G are of F, or newer ones. -/
def More (F : Nat → Prop) (w : World) (G : Nat → Prop) : Prop := ∀ i, G i → F i ∨ w.heap.size ≤ i
section
variable {w w' : World} {p : Nat} {D : St} {F : Nat → Prop}
theorem Os.kept {S : Nat → Prop} {g : Nat} {v : Value} {V : List Nat} {X : List Dt} {b1 b2 : Nat} {K : Kl} {T : Tl} (h : Os w p g v V X b1 b2 K T) (k : Keep S w w') (hp : ¬ S p) (h1 : ¬ S b1) (h2 : ¬ S b2) (hf : ∀ i, Foot g v i → ¬ S i) : Os w' p g v V X b1 b2 K T :=
  ⟨h.blk.kept k hp, h.cx.kept k hf, ⟨ownsMap_kept h.ma.live k h1, ownsMap_kept h.ma.tomb k h2, h.ma.okl, h.ma.okt, h.ma.ne⟩, h.far, h.farP⟩
theorem OsF.self (h : OsF w p D F) : F p := by
  obtain ⟨g, v, b1, b2, K, T, ho, hr, f⟩ := h.ex
  exact (f p).2 (.inl rfl)
theorem OsF.lt (h : OsF w p D F) : ∀ i, F i → i < w.heap.size := by
  obtain ⟨g, v, b1, b2, K, T, ho, hr, f⟩ := h.ex
  intro i hi
  rcases (f i).1 hi with rfl | rfl | rfl | hi
  · exact ho.blk.lt
  · exact ho.ma.lt.1
  · exact ho.ma.lt.2
  · exact ho.cx.lt i hi
theorem OsF.kept {S : Nat → Prop} (h : OsF w p D F) (k : Keep S w w') (hn : ∀ i, F i → ¬ S i) : OsF w' p D F := by
  obtain ⟨g, v, b1, b2, K, T, ho, hr, f⟩ := h.ex
  exact ⟨⟨g, v, b1, b2, K, T, ho.kept k (hn _ h.self) (hn _ ((f _).2 (.inr (.inl rfl)))) (hn _ ((f _).2 (.inr (.inr (.inl rfl))))) (fun i hi => hn i ((f i).2 (.inr (.inr (.inr hi))))), hr, f⟩, h.good⟩
/-- A row of elements of a type that is none of the set's is none of its blocks. -/
theorem OsF.row {α : Type} {k : Kd α} {base : Nat} {vi : Value} {L : List α} (h : OsF w p D F) (ho : OwnK k w base vi L) (h1 : k.ty ≠ 84) (h2 : k.ty ≠ 109) (h3 : k.ty ≠ 41) : ∀ i, vi.ownBlock = some i → ¬ F i := by
  obtain ⟨g, v, b1, b2, K, T, hos, hr, f⟩ := h.ex
  intro i hi hf
  obtain ⟨cs, hb⟩ := ho.blk i hi
  unfold Blk at hb
  have hmap : ∀ {H : Type} {R : Value → Option (DataW H × List MemPlace)} {kk : TypeId} {b n : Nat} {DD : DataW H}, w.ownsMap Tryz.prog kk R b n DD → i ≠ b := by
    rintro H R kk b n DD ⟨es, clock, hh, _⟩ rfl
    rw [hb] at hh; cases hh
  rcases (f i).1 hf with rfl | rfl | rfl | rfl | hi2
  · have := hb.symm.trans hos.blk; simp at this; exact h1 this.2
  · exact hmap hos.ma.live rfl
  · exact hmap hos.ma.tomb rfl
  · have := hb.symm.trans hos.cx.blk; simp at this; exact h2 this.2
  · obtain ⟨cs2, hcs⟩ := hos.cx.row.blk i hi2
    unfold Blk at hcs
    have := hb.symm.trans hcs; simp at this; exact h3 this.2
theorem OsF.below (h : OsF w p D F) (hb : Below w.heap.size w w') : OsF w' p D F := h.kept (S := fun _ => False) (.of_below hb) (fun _ _ h => h)
/-- What See of these items answers and leaves. -/
def SeeF (w : World) (p : Nat) (D : St) (F : Nat → Prop) (L : List It) (b : Bool) (c : Int) (w' : World) : Prop :=
  ((∃ i ∈ L, itB i = false) ∧ b = false ∧ c = 2 ∧ Below w.heap.size w w') ∨
  ((∀ i ∈ L, itB i = true) ∧ b = (seeDs D L).2 ∧ c = 0 ∧ (∃ G, OsF w' p (seeDs D L).1 G ∧ More F w G) ∧ Keep F w w')
theorem seeF_of {g : Nat} {v : Value} {b1 b2 : Nat} {K : Kl} {T : Tl} (ho : Os w p g v D.S.1 D.S.2 b1 b2 K T) (hr : Rep D.I K T) (hG : Good D) (hp : F p) {L : List It} {b : Bool} {c : Int} (hl : D.I.length + L.length ≤ 1000) (hX : D.S.2.length + L.length ≤ 4000)
    (h : SeeP w w' p D.S.1 D.S.2 K T L b c) : SeeF w p D F L b c w' := by
  rcases h with ⟨h1, h2, h3, h4⟩ | ⟨h1, q, h2, h3⟩
  · exact .inl ⟨h4, h1, h2, h3⟩
  · obtain ⟨c1, c2, c3, c4⟩ := see_comes hG hr ho.ma.okl ho.ma.okt h1 (by omega) (by omega)
    have hq : seeAll D.S ⟨K, T, [], false⟩ L = q := h2
    rw [hq] at c1 c2 c3 c4
    rcases h3 with ⟨_, _, _, h6 | ⟨M, hM1, hM2, hM3⟩⟩ | ⟨h3, M, R, h4, h5, h6, h7, h8, h9, h10, g', v', d1, d2, h11, h12, h13, h14⟩
    · exact absurd h6 c1
    · have hM3 : passB (some (passA D.S M).1) (passA D.S M).2 = none := hM3
      rw [c4 M hM2] at hM3; cases hM3
    · have h6 : passB (some (passA D.S M).1) (passA D.S M).2 = some R := h6
      rw [c4 M h5] at h6
      injection h6 with h6
      subst h6
      refine .inr ⟨h1, by rw [h8, c2], h9, ⟨fun i => i = p ∨ i = d1 ∨ i = d2 ∨ Foot g' v' i, ⟨⟨g', v', d1, d2, q.K, q.T, h11, c3, fun i => Iff.rfl⟩, hG.sees h1⟩, ?_⟩, h10.mono fun i e => by subst e; exact hp⟩
      rintro i (rfl | rfl | rfl | hi)
      · exact .inl hp
      · exact .inr h13
      · exact .inr h14
      · exact .inr (h12 i hi)
theorem OsF.lens (h : OsF w p D F) {g : Nat} {v : Value} {b1 b2 : Nat} {K : Kl} {T : Tl} (ho : Os w p g v D.S.1 D.S.2 b1 b2 K T) (hr : Rep D.I K T) : K.length + T.length = D.I.length := (hr.lens h.good ho.ma.okl ho.ma.okt).2.2
theorem fsee_any (h : OsF w p D F) (vl : Value) (L : List It) (hs : SlK kIt w vl L) (hl : D.I.length + L.length ≤ 1000) (hX : D.S.2.length + L.length ≤ 4000) :
    Calls Tryz.prog 34 #[.pointer (some ⟨p, 0, none⟩), vl] w fun e w' => ∃ b c, e = .returned (.tuple #[.bool b, .int .i64 c]) ∧ SeeF w p D F L b c w' := by
  obtain ⟨g, v, b1, b2, K, T, ho, hr, f⟩ := h.ex
  have hK := h.lens ho hr
  refine (osee_p ho vl L hs (by omega) (by omega) (by omega) (by omega)).mono ?_
  rintro e w' ⟨b, c, rfl, hp⟩
  exact ⟨b, c, rfl, seeF_of ho hr h.good h.self hl hX hp⟩
/-- What Add, or Remove, that see these items answer and leave. -/
def TellF (w : World) (p : Nat) (D : St) (F : Nat → Prop) (L : List It) (e : Ending) (w' : World) : Prop :=
  ∃ vi, e = .returned (.tuple #[vi, .int .i64 0]) ∧ OwnK kIt w' w.heap.size vi L ∧ (∃ G, OsF w' p (seeDs D L).1 G ∧ More F w G) ∧ Keep F w w'
theorem fremove_any (h : OsF w p D F) (t u : ByteArray) (hn : (nameB t && nameB u) = true) (hl : D.I.length ≤ 500) (hX : D.S.2.length ≤ 2000) :
    Calls Tryz.prog 46 #[.pointer (some ⟨p, 0, none⟩), .agg #[.string t, .string u]] w (TellF w p D F (goneOf D.I (t, u))) := by
  obtain ⟨g, v, b1, b2, K, T, ho, hr, f⟩ := h.ex
  have hK := h.lens ho hr
  have hgl := goneOf_len D.I (t, u)
  refine (oremove_any ho t u hn (by omega) (by omega) (by omega)).mono ?_
  rintro e w' ⟨b, c, vi, vr, M, rfl, hvr, hP, hown, hs⟩
  rw [pick_ends h.good hr ho.ma.okl hP] at hown hs
  rcases seeF_of ho hr h.good h.self (F := F) (by omega) (by omega) hs with ⟨⟨i, hi, hf⟩, _⟩ | ⟨h1, h2, h3, h4, h5⟩
  · rw [(goneOf_ok h.good (t, u) i hi).1] at hf; cases hf
  · subst h3
    rw [if_pos rfl] at hvr
    subst hvr
    exact ⟨_, rfl, hown, h4, h5⟩
theorem fremove_bad (h : OsF w p D F) (t u : ByteArray) (hn : (nameB t && nameB u) = false) :
    Calls Tryz.prog 46 #[.pointer (some ⟨p, 0, none⟩), .agg #[.string t, .string u]] w fun e w' => e = .returned (.tuple #[.slice none 0 0, .int .i64 2]) ∧ Below w.heap.size w w' := by
  obtain ⟨g, v, b1, b2, K, T, ho, hr, f⟩ := h.ex
  exact oremove_bad ho t u hn
/-- May this be added? -/
noncomputable def addB (D : St) (t u : ByteArray) (d : Dt) : Bool := itB ⟨d, t, u, false⟩ && !decide (In D.S.1 D.S.2 d)
theorem fadd_bad (h : OsF w p D F) (t u : ByteArray) (d : Dt) (hn : addB D t u d = false) (hX : D.S.2.length ≤ 4096) :
    Calls Tryz.prog 45 #[.pointer (some ⟨p, 0, none⟩), .agg #[.string t, .string u], .agg #[.int .i64 d.1, .int .u64 (d.2 : Int)]] w fun e w' => e = .returned (.tuple #[.slice none 0 0, .int .i64 2]) ∧ Below w.heap.size w w' := by
  obtain ⟨g, v, b1, b2, K, T, ho, hr, f⟩ := h.ex
  cases hi : itB ⟨d, t, u, false⟩ with
  | false => exact oadd_no ho t u d hi
  | true =>
    unfold addB at hn
    rw [hi, Bool.true_and, Bool.not_eq_false', decide_eq_true_iff] at hn
    exact oadd_old ho t u d hi hn hX
theorem fadd_any (h : OsF w p D F) (t u : ByteArray) (d : Dt) (hn : addB D t u d = true) (hl : D.I.length ≤ 499) (hX : D.S.2.length ≤ 2000) :
    Calls Tryz.prog 45 #[.pointer (some ⟨p, 0, none⟩), .agg #[.string t, .string u], .agg #[.int .i64 d.1, .int .u64 (d.2 : Int)]] w (TellF w p D F (⟨d, t, u, false⟩ :: goneOf D.I (t, u))) := by
  obtain ⟨g, v, b1, b2, K, T, ho, hr, f⟩ := h.ex
  have hK := h.lens ho hr
  have hgl := goneOf_len D.I (t, u)
  unfold addB at hn
  rw [Bool.and_eq_true, Bool.not_eq_true', decide_eq_false_iff_not] at hn
  refine (oadd_any ho t u d hn.1 hn.2 (by omega) (by omega) (by omega)).mono ?_
  rintro e w' ⟨b, c, vi, vr, M, rfl, hvr, hP, hown, hs⟩
  rw [pick_ends h.good hr ho.ma.okl hP, List.singleton_append] at hown hs
  rcases seeF_of ho hr h.good h.self (F := F) (by simp only [List.length_cons]; omega) (by simp only [List.length_cons]; omega) hs with ⟨⟨i, hi, hf⟩, _⟩ | ⟨h1, h2, h3, h4, h5⟩
  · rcases List.mem_cons.1 hi with rfl | hi
    · rw [hn.1] at hf; cases hf
    · rw [(goneOf_ok h.good (t, u) i hi).1] at hf; cases hf
  · subst h3
    rw [if_pos rfl] at hvr
    subst hvr
    exact ⟨_, rfl, hown, h4, h5⟩
/-- What Collect answers and leaves. -/
def CollF (w : World) (p : Nat) (D : St) (F : Nat → Prop) (d : Dt) (e : Ending) (w' : World) : Prop :=
  (¬ May d ∧ e = .returned (.int .i64 2) ∧ Below w.heap.size w w') ∨ (May d ∧ goneAt D.I d = false ∧ e = .returned (.int .i64 6) ∧ Below w.heap.size w w') ∨
  (May d ∧ goneAt D.I d = true ∧ e = .returned (.int .i64 0) ∧ OsF w' p ⟨D.S, colI D.I d⟩ F ∧ Keep F w w')
theorem fcollect_any (h : OsF w p D F) (d : Dt) : Calls Tryz.prog 35 #[.pointer (some ⟨p, 0, none⟩), .agg #[.int .i64 d.1, .int .u64 (d.2 : Int)]] w (CollF w p D F d) := by
  obtain ⟨g, v, b1, b2, K, T, ho, hr, f⟩ := h.ex
  refine (ocollect_any ho d).mono ?_
  rintro e w' (⟨h1, h2, h3⟩ | ⟨h1, h2, h3, h4⟩ | ⟨h1, h2, h3, h4, h5⟩)
  · exact .inl ⟨h1, h2, h3⟩
  · refine .inr (.inl ⟨h1, ?_, h3, h4⟩)
    rw [hr.memT h.good] at h2
    exact Bool.eq_false_iff.2 h2
  · rw [hr.memT h.good] at h2
    refine .inr (.inr ⟨h1, h2, h3, ⟨⟨g, v, b1, b2, K, butD d T, h4, hr.col h.good h2, f⟩, h.good.col d⟩, h5.mono ?_⟩)
    rintro i (rfl | rfl)
    · exact (f _).2 (.inr (.inl rfl))
    · exact (f _).2 (.inr (.inr (.inl rfl)))
theorem fnew_any (w : World) : Calls Tryz.prog 12 #[] w fun e w' => ∃ p G, e = .returned (.pointer (some ⟨p, 0, none⟩)) ∧ OsF w' p ⟨(zeros, []), []⟩ G ∧ (∀ i, G i → w.heap.size ≤ i) ∧ Below w.heap.size w w' := by
  refine (onew_any w).mono ?_
  rintro e w' ⟨p, g, b1, b2, rfl, ho, hb, h1, h2, h3, h4⟩
  refine ⟨p, fun i => i = p ∨ i = b1 ∨ i = b2 ∨ Foot g (.slice none 0 0) i, rfl, ⟨⟨g, _, b1, b2, [], [], ho, Rep.nil, fun i => Iff.rfl⟩, Good.zero⟩, ?_, hb⟩
  rintro i (rfl | rfl | rfl | rfl | hi)
  · exact h1
  · exact h2
  · exact h3
  · exact h4
  · cases hi
theorem fcopy_any (h : OsF w p D F) (hX : D.S.2.length ≤ 4096) : Calls Tryz.prog 13 #[.pointer (some ⟨p, 0, none⟩)] w fun e w' => ∃ q G, e = .returned (.pointer (some ⟨q, 0, none⟩)) ∧ OsF w' q D G ∧ (∀ i, G i → w.heap.size ≤ i) ∧ Below w.heap.size w w' := by
  obtain ⟨g, v, b1, b2, K, T, ho, hr, f⟩ := h.ex
  refine (ocopy_any ho (by omega)).mono ?_
  rintro e w' ⟨s, rfl, ⟨q, g', v', c1, c2, rfl, ho', hq, h1, h2, h3⟩, hb⟩
  refine ⟨q, fun i => i = q ∨ i = c1 ∨ i = c2 ∨ Foot g' v' i, rfl, ⟨⟨g', v', c1, c2, K, T, ho', hr, fun i => Iff.rfl⟩, h.good⟩, ?_, hb⟩
  rintro i (rfl | rfl | rfl | hi)
  · exact hq
  · exact h1
  · exact h2
  · exact h3 i hi
theorem fitems_any (h : OsF w p D F) (hN : D.I.length ≤ 40000) :
    Calls Tryz.prog 14 #[.pointer (some ⟨p, 0, none⟩)] w fun e w' => ∃ vi, e = .returned vi ∧ OwnK kIt w' w.heap.size vi D.I ∧ Below w.heap.size w w' := by
  obtain ⟨g, v, b1, b2, K, T, ho, hr, f⟩ := h.ex
  exact oitems_any ho h.good hr hN
/-- The keys of the live items, in order, each once. -/
structure KeysI (I : List It) (M : List Ky) : Prop where
  rise : RiseY M
  mem : ∀ k, k ∈ M ↔ ∃ i ∈ I, i.g = false ∧ (i.t, i.v) = k
theorem rep_keys {I : List It} {K : Kl} {T : Tl} (hr : Rep I K T) (k : Ky) : (∃ q ∈ K, q.2 = k) ↔ ∃ i ∈ I, i.g = false ∧ (i.t, i.v) = k := by
  constructor
  · rintro ⟨⟨d, k'⟩, hq, rfl⟩
    exact ⟨_, (hr.live d k').1 hq, rfl, rfl⟩
  · rintro ⟨⟨d, t, v, g⟩, hi, hg, rfl⟩
    simp only at hg
    subst hg
    exact ⟨_, (hr.live d (t, v)).2 hi, rfl⟩
theorem fkeys_any (h : OsF w p D F) (hN : D.I.length ≤ 40000) :
    Calls Tryz.prog 39 #[.pointer (some ⟨p, 0, none⟩)] w fun e w' => ∃ vi M, e = .returned vi ∧ KeysI D.I M ∧ OwnK kKy w' w.heap.size vi M ∧ M.length ≤ D.I.length ∧ Below w.heap.size w w' := by
  obtain ⟨g, v, b1, b2, K, T, ho, hr, f⟩ := h.ex
  have hK := h.lens ho hr
  refine (okeys_any ho (by omega)).mono ?_
  rintro e w' ⟨vi, M, rfl, hk, hown, hl, hb⟩
  exact ⟨vi, M, rfl, ⟨hk.rise, fun k => by rw [hk.mem, rep_keys hr]⟩, hown, by omega, hb⟩
theorem fctx_any (h : OsF w p D F) (hX : D.S.2.length ≤ 4096) :
    Calls Tryz.prog 36 #[.pointer (some ⟨p, 0, none⟩)] w fun e w' => ∃ g' v', e = .returned (.pointer (some ⟨g', 0, none⟩)) ∧ Cx w' g' v' D.S.1 D.S.2 ∧ (∀ i, Foot g' v' i → w.heap.size ≤ i) ∧ Below w.heap.size w w' := by
  obtain ⟨g, v, b1, b2, K, T, ho, hr, f⟩ := h.ex
  exact octx_any ho (by omega)
/-- Has the key a live dot? -/
def hasB (I : List It) (k : Ky) : Bool := I.any (hasK k)
theorem hasB_iff {I : List It} {k : Ky} : hasB I k = true ↔ ∃ i ∈ I, i.g = false ∧ (i.t, i.v) = k := by
  unfold hasB hasK
  simp
theorem fhas_any (h : OsF w p D F) (t u : ByteArray) :
    Calls Tryz.prog 19 #[.pointer (some ⟨p, 0, none⟩), .agg #[.string t, .string u]] w fun e w' => e = .returned (.bool (hasB D.I (t, u))) ∧ Below w.heap.size w w' := by
  obtain ⟨g, v, b1, b2, K, T, ho, hr, f⟩ := h.ex
  refine (ohas_any ho t u).mono ?_
  rintro e w' ⟨rfl, hb⟩
  refine ⟨?_, hb⟩
  congr 2
  rw [Bool.eq_iff_iff, decide_eq_true_iff, hasB_iff, rep_keys hr]
/-- The key of a live dot; else the empty one. -/
def keyI : List It → Dt → Ky
  | [], _ => (⟨#[]⟩, ⟨#[]⟩)
  | i :: I, d => if i.d = d ∧ i.g = false then (i.t, i.v) else keyI I d
theorem keyI_of : ∀ {I : List It} {i : It}, i ∈ I → i.g = false → (∀ a ∈ I, ∀ b ∈ I, a.d = b.d → a = b) → keyI I i.d = (i.t, i.v)
  | [], i, hi, _, _ => absurd hi (by simp)
  | j :: I, i, hi, hg, hu => by
    unfold keyI
    by_cases e : j.d = i.d ∧ j.g = false
    · rw [if_pos e]
      have := hu j (by simp) i hi e.1
      rw [this]
    · rw [if_neg e]
      rcases List.mem_cons.1 hi with rfl | hi
      · exact absurd ⟨rfl, hg⟩ e
      · exact keyI_of hi hg fun a ha b hb => hu a (by simp [ha]) b (by simp [hb])
theorem keyI_none : ∀ {I : List It} {d : Dt}, liveAt I d = false → keyI I d = (⟨#[]⟩, ⟨#[]⟩)
  | [], d, _ => rfl
  | j :: I, d, h => by
    unfold liveAt at h
    rw [List.any_cons, Bool.or_eq_false_iff] at h
    unfold keyI
    rw [if_neg (fun e => by rw [e.1, e.2] at h; simp at h), keyI_none h.2]
theorem rep_keyAt {K : Kl} {T : Tl} (hr : Rep D.I K T) (hG : Good D) (hK : OkL K) (d : Dt) : keyAt K d = keyI D.I d := by
  cases hl : liveAt D.I d with
  | true =>
    obtain ⟨i, hi, rfl, hg⟩ := liveAt_iff.1 hl
    rw [keyI_of hi hg fun a ha b hb => hG.uniq ha hb]
    obtain ⟨d, t, v, g⟩ := i
    simp only at hg
    subst hg
    exact keyAt_of hK ((hr.live d (t, v)).2 hi)
  | false =>
    rw [keyI_none hl]
    exact keyAt_none fun hm => by rw [hr.memK, hl] at hm; cases hm
theorem flive_any (h : OsF w p D F) (d : Dt) (hd : OkD d) : Calls Tryz.prog 22 #[.pointer (some ⟨p, 0, none⟩), .agg #[.int .i64 d.1, .int .u64 (d.2 : Int)]] w fun e w' => e = .returned (.tuple #[.agg #[.string (keyI D.I d).1, .string (keyI D.I d).2], .bool (liveAt D.I d)]) ∧ Below w.heap.size w w' := by
  obtain ⟨g, v, b1, b2, K, T, ho, hr, f⟩ := h.ex
  refine (olive_any ho d hd).mono ?_
  rintro e w' ⟨rfl, hb⟩
  refine ⟨?_, hb⟩
  rw [rep_keyAt hr h.good ho.ma.okl]
  have : decide (d ∈ K.map Prod.fst) = liveAt D.I d := by rw [Bool.eq_iff_iff, decide_eq_true_iff]; exact hr.memK d
  rw [this]; rfl
theorem fgone_any (h : OsF w p D F) (hX : D.S.2.length ≤ 4096) (d : Dt) (hd : OkD d) : Calls Tryz.prog 24 #[.pointer (some ⟨p, 0, none⟩), .agg #[.int .i64 d.1, .int .u64 (d.2 : Int)]] w fun e w' => e = .returned (.bool (!liveAt D.I d && decide (In D.S.1 D.S.2 d))) ∧ Below w.heap.size w w' := by
  obtain ⟨g, v, b1, b2, K, T, ho, hr, f⟩ := h.ex
  refine (ogone_any ho (by omega) d hd).mono ?_
  rintro e w' ⟨rfl, hb⟩
  refine ⟨?_, hb⟩
  have : decide (d ∈ K.map Prod.fst) = liveAt D.I d := by rw [Bool.eq_iff_iff, decide_eq_true_iff]; exact hr.memK d
  rw [this]
theorem ftombs_any (h : OsF w p D F) (hN : D.I.length ≤ 40000) :
    Calls Tryz.prog 31 #[.pointer (some ⟨p, 0, none⟩)] w fun e w' => ∃ vi, e = .returned vi ∧ OwnD w' w.heap.size vi ((D.I.filter fun i => i.g).map It.d) ∧ Below w.heap.size w w' := by
  obtain ⟨g, v, b1, b2, K, T, ho, hr, f⟩ := h.ex
  have hK := h.lens ho hr
  refine (otombs_any ho (by omega)).mono ?_
  rintro e w' ⟨vi, M, rfl, hP, hown, hb⟩
  have : M = (D.I.filter fun i => i.g).map It.d := by
    refine rise_uniq hP.rise (by rw [List.pairwise_map]; exact h.good.rise.filter _) fun d => ?_
    rw [hP.mem, hr.memT h.good, goneAt_iff]
    constructor
    · rintro ⟨⟨i, h1, h2, h3⟩, _⟩
      exact List.mem_map.2 ⟨i, List.mem_filter.2 ⟨h1, h3⟩, h2⟩
    · intro h0
      obtain ⟨i, h1, h2⟩ := List.mem_map.1 h0
      obtain ⟨h3, h4⟩ := List.mem_filter.1 h1
      exact ⟨⟨i, h3, h2, h4⟩, rfl⟩
  rw [this] at hown
  exact ⟨vi, rfl, hown, hb⟩
end
end Go.Proofs.YtldfaaahmpncbaaGreat

namespace Go.Proofs.YtldfaaahmpncbaaGreat
open Go.RowKit Go.Maps
open CtxM
set_option linter.unusedVariables false
set_option linter.unusedSimpArgs false
set_option maxRecDepth 20000
theorem it_ext_iff (a b : It) : a = b ↔ a.d = b.d ∧ (a.t = b.t ∧ a.v = b.v) ∧ a.g = b.g := by
  obtain ⟨a1, a2, a3, a4⟩ := a
  obtain ⟨b1, b2, b3, b4⟩ := b
  simp only [It.mk.injEq]
  constructor
  · rintro ⟨h1, h2, h3, h4⟩; exact ⟨h1, ⟨h2, h3⟩, h4⟩
  · rintro ⟨h1, ⟨h2, h3⟩, h4⟩; exact ⟨h1, h2, h3, h4⟩
instance : DecidableEq It := fun a b => decidable_of_iff _ (it_ext_iff a b).symm
set_option maxHeartbeats 1000000 in
theorem item_eq (i j : It) (w : World) : (Op.equalIn 10000 48 (.agg #[.int .i64 i.d.1, .int .u64 (i.d.2 : Int), .string i.t, .string i.v, .bool i.g]) (.agg #[.int .i64 j.d.1, .int .u64 (j.d.2 : Int), .string j.t, .string j.v, .bool j.g])).run Tryz.prog w = .ok (decide (i = j)) w := by
  have ub := Tryz.underlying4
  have ab := Tryz.isAgg4
  have zb := Tryz.sizeOf4
  have ad := Tryz.isAgg41
  have zd := Tryz.sizeOf41
  have ak := Tryz.isAgg39
  have zk := Tryz.sizeOf39
  have hS : Tryz.prog.underlying 48 = some (.struct (Tryz.prog.fieldsOf 48)) := by kernel_rfl
  have hp : Tryz.prog.stoodInHeld 48 = false := by kernel_rfl
  rw [show (10000 : Nat) = 9999 + 1 from rfl, run_equalIn_agg w 9999 48 _ _ hS hp]
  simp only [Program.fieldsOf, Tryz.underlying48]
  have f : ∀ x y : ByteArray, x.toList = y.toList ↔ x = y := fun x y => by rw [← beq_iff_eq, bytes_eq, decide_eq_true_iff]
  have e : i = j ↔ i.d.1 = j.d.1 ∧ (i.d.2 : Int) = (j.d.2 : Int) ∧ i.t = j.t ∧ i.v = j.v ∧ i.g = j.g := by
    rw [it_ext_iff]
    constructor
    · rintro ⟨h1, ⟨h2, h3⟩, h4⟩; exact ⟨by rw [h1], by rw [h1], h2, h3, h4⟩
    · rintro ⟨h1, h2, h3, h4, h5⟩; exact ⟨Prod.ext h1 (by omega), ⟨h3, h4⟩, h5⟩
  have e2 : decide (i = j) = decide (i.d.1 = j.d.1 ∧ (i.d.2 : Int) = (j.d.2 : Int) ∧ i.t = j.t ∧ i.v = j.v ∧ i.g = j.g) := decide_eq_decide.2 e
  rw [e2]
  clear e e2
  generalize i.d.1 = a1
  generalize j.d.1 = b1
  generalize (i.d.2 : Int) = a2
  generalize (j.d.2 : Int) = b2
  go_simp
  by_cases h1 : a1 = b1 <;> by_cases h2 : a2 = b2 <;> by_cases h3 : i.t = j.t <;> by_cases h4 : i.v = j.v <;> by_cases h5 : i.g = j.g <;> simp [f, h1, h2, h3, h4, h5]
end Go.Proofs.YtldfaaahmpncbaaGreat

namespace Go.Proofs.YtldfaaahmpncbaaGreat
open Go.RowKit Go.Maps
open CtxM
set_option linter.unusedVariables false
set_option linter.unusedSimpArgs false
set_option maxRecDepth 20000
def nwT : ByteArray := ⟨#[110, 101, 119, 115]⟩
def nwD : ByteArray := ⟨#[97]⟩
def kn0 : St := ⟨(zeros, []), []⟩
def knX1 : It := ⟨(1, 1), nwT, nwD, false⟩
def knX2 : It := ⟨(2, 1), nwT, nwD, false⟩
def knX3 : It := ⟨(3, 4), nwT, nwD, false⟩
def kn1 : St := ⟨([1, 0, 0, 0, 0, 0, 0, 0, 0, 0, 0, 0, 0, 0, 0, 0], []), [knX1]⟩
def kn2 : St := ⟨([1, 1, 0, 0, 0, 0, 0, 0, 0, 0, 0, 0, 0, 0, 0, 0], []), [goneI (1, 1), knX2]⟩
def kn3 : St := ⟨([1, 1, 0, 0, 0, 0, 0, 0, 0, 0, 0, 0, 0, 0, 0, 0], [(3, 4)]), [goneI (1, 1), knX2, goneI (3, 4)]⟩
theorem kn_1 : (seeDs kn0 (knX1 :: goneOf kn0.I (nwT, nwD))).1 = kn1 := by kernel_rfl
theorem kn_g : goneOf kn1.I (nwT, nwD) = [goneI (1, 1)] := by simp [goneOf, hasK, kn1, knX1]
theorem kn_2 : (seeDs kn1 [knX2, goneI (1, 1)]).1 = kn2 := by kernel_rfl
theorem kn_3 : (seeDs kn2 [goneI (3, 4)]).1 = kn3 := by kernel_rfl
theorem kn_4 : (seeDs kn3 [knX3]).1 = kn3 := by kernel_rfl
theorem kn_a1 : addB kn0 nwT nwD (1, 1) = true := by kernel_rfl
theorem kn_a2 : addB kn1 nwT nwD (2, 1) = true := by kernel_rfl
theorem kn_l2 : liveAt kn2.I (2, 1) = true := by kernel_rfl
theorem kn_l3 : liveAt kn3.I (3, 4) = false := by kernel_rfl
theorem kn_g1 : (!liveAt kn3.I (1, 1) && decide (In kn3.S.1 kn3.S.2 (1, 1))) = true := by kernel_rfl
theorem kn_g3 : (!liveAt kn3.I (3, 4) && decide (In kn3.S.1 kn3.S.2 (3, 4))) = true := by kernel_rfl
theorem kn_h : hasB kn3.I (nwT, nwD) = true := by rw [hasB_iff]; exact ⟨knX2, by simp [kn3], rfl, rfl⟩
theorem kn_o3 : itB (goneI (3, 4)) = true := by kernel_rfl
theorem kn_ox3 : itB knX3 = true := by kernel_rfl
theorem kn_k2 : keyI kn2.I (2, 1) = (nwT, nwD) := by kernel_rfl
theorem kn_k3 : keyI kn3.I (3, 4) = (⟨#[]⟩, ⟨#[]⟩) := by kernel_rfl
end Go.Proofs.YtldfaaahmpncbaaGreat

/-
  Send; Len.
-/
import Derived.Test.YtellbmghahgjfaaNetK
import Derived.Laws.IdiomRangeMap
namespace Go.Proofs.Ytellbmghahgjfaa
open Go.RowKit Go.Maps Go.WideShapes Go.WideMaps
open NetM
set_option linter.unusedVariables false
set_option linter.unusedSimpArgs false
set_option maxRecDepth 20000

section
variable {w w' : World} {p b : Nat} {E lost : Int} {m : Option Nat} {K : Kl} {V : List (Fl Pl)} {G : Nat → Prop}
theorem Nt.more (h : Nt w p b E lost K V G) (l : Int) (hl : 0 ≤ l) : Nt (w.setCell ⟨p, 2, none⟩ (.int .i64 l)) p b E l K V G := by
  have k : Keep (fun i => i = p) w (w.setCell ⟨p, 2, none⟩ (.int .i64 l)) := Keep.setCell w ⟨p, 2, none⟩ _ rfl
  have hG : ∀ i, G i → ¬ i = p := fun i hi e => h.gp (e ▸ hi)
  exact ⟨h.blk.set_ 2 (.int .i64 l), ownsMap_keep h.map k (fun e => h.pb e.symm), h.ok, h.keys, fun q => InB.slk (h.row q) k fun i hi => hG i (h.inl q i hi), fun f hf => InB.sl (h.by_ f hf) k fun i hi => hG i (h.inb f hf i hi), h.inl, h.inb,
   fun i hi => by obtain ⟨cs, t, m, hh, ht⟩ := h.gty i hi; exact ⟨cs, t, m, (k.block i (h.glt i hi) (hG i hi)).trans hh, ht⟩, h.sorted, h.inr, h.ends, h.lens, h.full, hl⟩
theorem send_no {v u : Value} (h : NoN w v) (x y : Value) : Calls Try.prog 17 #[v, x, y, u] w fun e w' => e = .returned (.int .i64 1) ∧ Below w.heap.size w w' := by
  have hq := none_no h
  go_enter Try.func17, Try.ntmps17
  go_wp2_with (go_at_call 29; refine hq.mono ?_; rintro e w2 ⟨rfl, hwd⟩; obtain rfl := hwd.symm)
  go_ret
  exact ⟨rfl, Below.refl _ _⟩
/-- May this be sent? -/
def MaySend (E : Int) (q : Pr) (l : List UInt8) : Prop := InR E q ∧ l.length ≤ 1048576
instance (E : Int) (q : Pr) (l : List UInt8) : Decidable (MaySend E q l) := by unfold MaySend; infer_instance
set_option maxHeartbeats 4000000 in
theorem send_bad (h : Nt w p b E lost K V G) (q : Pr) (v : Value) (l : List UInt8) (hs : Sl w v l) (hn : ¬ MaySend E q l) : Calls Try.prog 17 #[.pointer (some ⟨p, 0, none⟩), .int .i64 q.1, .int .i64 q.2, v] w fun e w' => e = .returned (.int .i64 2) ∧ Below w.heap.size w w' := by
  have hq := none_any h
  have ha := has_any h q.1
  have hb := has_any h q.2
  obtain ⟨A, n, c, rfl⟩ := hs.shape
  have hl := hs.len
  by_cases h1 : hasB E q.1 = true
  · rw [h1] at ha
    by_cases h2 : hasB E q.2 = true
    · rw [h2] at hb
      by_cases h3 : q.1 = q.2
      · have h3' : (q.1 == q.2) = true := by simpa using h3
        rw [h3] at ha ⊢
        clear hn h1 h2 h3 h3'
        go_enter Try.func17, Try.ntmps17
        go_wp2_with (first | (go_at_call 29; refine hq.mono ?_; rintro e w2 ⟨rfl, hwd⟩; obtain rfl := hwd.symm) | (go_at_call 37; refine hb.mono ?_; rintro e w3 ⟨rfl, hwd⟩; obtain rfl := hwd.symm))
        go_ret
        exact ⟨rfl, Below.refl _ _⟩
      · have h3' : (q.1 == q.2) = false := by simpa using h3
        have h4 : 1048576 < (n : Int) := by
          unfold hasB at h1 h2
          rw [decide_eq_true_iff] at h1 h2
          have : ¬ l.length ≤ 1048576 := fun hle => hn ⟨⟨h1.1, h1.2, h2.1, h2.2, h3⟩, hle⟩
          omega
        clear hn h1 h2 h3
        go_enter Try.func17, Try.ntmps17
        go_wp2_with (first | (go_at_call 29; refine hq.mono ?_; rintro e w2 ⟨rfl, hwd⟩; obtain rfl := hwd.symm) | (with_reducible (show Calls _ _ #[_, .int .i64 q.1] _ _); go_at_call 37; refine ha.mono ?_; rintro e w3 ⟨rfl, hwd⟩; obtain rfl := hwd.symm) | (with_reducible (show Calls _ _ #[_, .int .i64 q.2] _ _); go_at_call 37; refine hb.mono ?_; rintro e w3 ⟨rfl, hwd⟩; obtain rfl := hwd.symm))
        go_ret
        exact ⟨rfl, Below.refl _ _⟩
    · have h2 : hasB E q.2 = false := by simpa using h2
      rw [h2] at hb
      have hne : ¬ q.1 = q.2 := fun e => by rw [e, h2] at h1; cases h1
      clear hn h1 h2 hne
      go_enter Try.func17, Try.ntmps17
      go_wp2_with (first | (go_at_call 29; refine hq.mono ?_; rintro e w2 ⟨rfl, hwd⟩; obtain rfl := hwd.symm) | (with_reducible (show Calls _ _ #[_, .int .i64 q.1] _ _); go_at_call 37; refine ha.mono ?_; rintro e w3 ⟨rfl, hwd⟩; obtain rfl := hwd.symm) | (with_reducible (show Calls _ _ #[_, .int .i64 q.2] _ _); go_at_call 37; refine hb.mono ?_; rintro e w3 ⟨rfl, hwd⟩; obtain rfl := hwd.symm))
      go_ret
      exact ⟨rfl, Below.refl _ _⟩
  · have h1 : hasB E q.1 = false := by simpa using h1
    rw [h1] at ha
    clear hn h1 hb
    go_enter Try.func17, Try.ntmps17
    go_wp2_with (first | (go_at_call 29; refine hq.mono ?_; rintro e w2 ⟨rfl, hwd⟩; obtain rfl := hwd.symm) | (go_at_call 37; refine ha.mono ?_; rintro e w3 ⟨rfl, hwd⟩; obtain rfl := hwd.symm))
    go_ret
    exact ⟨rfl, Below.refl _ _⟩
set_option maxHeartbeats 4000000 in
theorem send_any (h : Nt w p b E lost K V G) (q : Pr) (v : Value) (l : List UInt8) (hs : Sl w v l) (hm : MaySend E q l) (hlo : lost ≤ 4611686018427387904) : Calls Try.prog 17 #[.pointer (some ⟨p, 0, none⟩), .int .i64 q.1, .int .i64 q.2, v] w (PutEnd w p b E lost V G q l 1) := by
  have hq := none_any h
  have ha := has_any h q.1
  have hb := has_any h q.2
  have hL := Lib.hid (clone_any v l w hs (by have := hm.2; omega))
  obtain ⟨A, n, c, rfl⟩ := hs.shape
  have hl := hs.len
  have hlen : (n : Int) ≤ 1048576 := by have := hm.2; omega
  have hne : (q.1 == q.2) = false := by have := hm.1.2.2.2.2; simpa using this
  rw [show hasB E q.1 = true from decide_eq_true ⟨hm.1.1, hm.1.2.1⟩] at ha
  rw [show hasB E q.2 = true from decide_eq_true ⟨hm.1.2.2.1, hm.1.2.2.2.1⟩] at hb
  have hlw : IntKind.i64.wrap (lost + 1) = lost + 1 := by have := h.lst; rw [IntKind.wrap_i64] <;> omega
  have hl0 := h.lst
  have HM := Lib.hid hm
  have HADD := Lib.hid (show ∀ X s, Below w.heap.size w X → Own X w.heap.size 5 (sv s) l → Calls Try.prog 38 #[.pointer (some ⟨p, 0, none⟩), .agg #[.int .i64 q.1, .int .i64 q.2], sv s] X (AddEnd X p b E lost V G q (s, l)) from fun X s hX ho => add_any (h.below hX) q hm.1 s l ho.sl hm.2 (fun j hj => by obtain ⟨_, cs, m, hh⟩ := ho.typed j hj; exact ⟨cs, _, m, hh, .inl rfl⟩))
  clear hm hl
  go_enter Try.func17, Try.ntmps17
  go_upto_region 5 with (first | (go_at_call 29; refine hq.mono ?_; rintro e w2 ⟨rfl, hwd⟩; obtain rfl := hwd.symm) | (with_reducible (show Calls _ _ #[_, .int .i64 q.1] _ _); go_at_call 37; refine ha.mono ?_; rintro e w3 ⟨rfl, hwd⟩; obtain rfl := hwd.symm) | (with_reducible (show Calls _ _ #[_, .int .i64 q.2] _ _); go_at_call 37; refine hb.mono ?_; rintro e w3 ⟨rfl, hwd⟩; obtain rfl := hwd.symm))
  clear hq ha hb
  go_wp2_with (first | (go_at_call 39; refine hL.out.mono ?_; rintro e X ⟨u, rfl, hoX, hbX⟩; obtain ⟨⟨t0, t1, t2⟩, rfl⟩ := hoX.sl.to_sv; have HAX := Lib.hid (HADD.out X (t0, t1, t2) hbX hoX); have HOX := Lib.hid hoX; clear hoX; simp only [sv] at *) | (go_at_call 38; refine HAX.out.mono ?_; rintro e Y (⟨h1, rfl, h3⟩ | ⟨h1, rfl, h3⟩); all_goals (try (have hY := h.below (hbX.trans (h3.mono hbX.size)); have y2 := hY.c2; have y3 := hY.blk.frozen 2))))
  · go_ret
    refine .inl ⟨h1, rfl, ?_⟩
    exact Turn.pre (hbX.trans (h3.mono hbX.size)) ⟨Keep.setCell Y ⟨p, 2, none⟩ (.int .i64 (lost + 1)) (.inl rfl), K, G, hY.more (lost + 1) (by omega), fun i hi => .inl hi⟩
  · go_ret
    obtain ⟨h4, K', G', h5, h6⟩ := h3
    refine .inr ⟨h1, rfl, _, (Keep.of_below hbX).trans (h4.mono (T := fun i => i = p ∨ i = b) (fun _ h => .inr h)) (fun _ h => h) (fun _ _ h => h), K', G', h5, fun i hi => ?_⟩
    rcases h6 i hi with h7 | h7 | h7
    · exact .inl h7
    · exact .inr (Own.typed (s := (t0, t1, t2)) HOX.out i h7).1
    · exact .inr (Nat.le_trans hbX.size h7)
/-- What has come of the keys, and what is left. -/
def Come (K : Kl) (left : Lit → Bool) (ss : List Pr) : Prop := ss.Nodup ∧ ∀ q, q ∈ ss ↔ (q ∈ K.map Prod.fst ∧ left (litP q) = false)
theorem Come.start (h : OkL K) : Come K (Maps.has (MD svD K)) [] := by
  refine ⟨List.nodup_nil, fun d => ⟨fun hd => (by cases hd), fun ⟨hm, hl⟩ => ?_⟩⟩
  obtain ⟨p, hp, rfl⟩ := List.mem_map.1 hm
  rw [has_MD h (h.2 p hp), decide_eq_true hm] at hl
  cases hl
theorem key_of_has (h : OkL K) {key : Value} {kl : Lit} (hk : keyOf Try.prog 61 key = some kl) (hh : Maps.has (MD svD K) kl = true) : ∃ p ∈ K, kl = litP p.1 ∧ key = pval p.1 := by
  unfold MD at hh
  rw [Maps.has_eq] at hh
  obtain ⟨q, hq, hs⟩ := List.any_eq_true.1 hh
  obtain ⟨p, hp, rfl⟩ := mem_MD.1 hq
  have e : litP p.1 = kl := WideAt.sameKey_eq hs
  refine ⟨p, hp, e.symm, ?_⟩
  subst e
  exact prK.inj hk (keyOf_pr (h.2 p hp))
theorem same_litP (a b : Pr) : (litP a).sameKey (litP b) = true ↔ litP a = litP b :=
  ⟨fun h => WideAt.sameKey_eq h, fun h => by rw [h]; exact WideAt.sameKey_self (litP_key _)⟩
theorem Come.step (hL : OkL K) {left : Lit → Bool} {ss : List Pr} (h : Come K left ss) {p : Pr × Sv} (hp : p ∈ K) (hk : left (litP p.1) = true) : Come K (fun z => left z && !z.sameKey (litP p.1)) (ss ++ [p.1]) := by
  have hnew : p.1 ∉ ss := fun hx => by have := ((h.2 _).1 hx).2; rw [hk] at this; cases this
  refine ⟨List.nodup_append.2 ⟨h.1, by simp, fun a ha b hb => by simp at hb; subst hb; exact fun e => hnew (e ▸ ha)⟩, fun d => ?_⟩
  rw [List.mem_append, List.mem_singleton, h.2 d]
  constructor
  · rintro (⟨h1, h2⟩ | rfl)
    · exact ⟨h1, by show (left (litP d) && _) = false; rw [h2]; rfl⟩
    · exact ⟨List.mem_map.2 ⟨p, hp, rfl⟩, by show (_ && !(litP p.1).sameKey (litP p.1)) = false; rw [(same_litP _ _).2 rfl]; simp⟩
  · rintro ⟨h1, h2⟩
    by_cases e : left (litP d) = false
    · exact .inl ⟨h1, e⟩
    · right
      have e' : left (litP d) = true := by cases hx : left (litP d) <;> simp_all
      obtain ⟨q, hq, rfl⟩ := List.mem_map.1 h1
      have h2' : (left (litP q.1) && !(litP q.1).sameKey (litP p.1)) = false := h2
      rw [e', Bool.true_and] at h2'
      have h3 : litP q.1 = litP p.1 := (same_litP _ _).1 (by cases hx : (litP q.1).sameKey (litP p.1) <;> simp_all)
      exact litP_inj (hL.2 q hq) (hL.2 p hp) h3
/-- How many flights the lines of these pairs have. -/
def sumOf (V : List (Fl Pl)) (ss : List Pr) : Nat := (ss.map fun q => (lineOf V q).length).sum
theorem sumOf_snoc (V : List (Fl Pl)) (ss : List Pr) (q : Pr) : sumOf V (ss ++ [q]) = sumOf V ss + (lineOf V q).length := by simp [sumOf]
theorem Ls.keyed (h : Ls w m K V G) : ∀ f ∈ V, f.p ∈ K.map Prod.fst := by
  intro f hf
  by_cases hm : f.p ∈ K.map Prod.fst
  · exact hm
  · have h1 := h.len f.p
    rw [lineAt_none hm] at h1
    have h2 := line_mem hf
    have h3 : (lineOf V f.p).length = 0 := h1.symm
    rw [List.eq_nil_of_length_eq_zero h3] at h2
    cases h2
theorem sumOf_le (h : Ls w m K V G) : ∀ ss : List Pr, sumOf V ss ≤ 64 * ss.length := by
  intro ss
  induction ss with
  | nil => simp [sumOf]
  | cons q ss ih =>
    unfold sumOf at ih ⊢
    rw [List.map_cons, List.sum_cons, List.length_cons]
    have := h.full q
    omega
set_option maxHeartbeats 8000000 in
theorem len_any (h : Nt w p b E lost K V G) : Calls Try.prog 20 #[.pointer (some ⟨p, 0, none⟩)] w fun e w' => e = .returned (.int .i64 (V.length : Int)) ∧ Below w.heap.size w w' := by
  have hk := look_any h
  have hls := h.ls
  have hfewK := h.few
  have hsf : ∀ a b c W, (Instr.field 55 (.agg #[a, b, c]) 1).run Try.prog W = .ok b W := fun a b c W => net_f1 a b c W
  have HMAP := Lib.hid (show ∀ X, Below w.heap.size w X → X.ownsMap Try.prog 61 heldR b K.length (MD svD K) from fun X hX => (h.below hX).map)
  go_enter Try.func20, Try.ntmps20
  go_wp2_with (first
    | (go_at_call 43; refine hk.mono ?_; rintro e w2 ⟨rfl, hb2⟩; have hown := HMAP.out w2 hb2)
    | (at_range; refine wpList_range_own _ rfl _ 53 rfl 61 62 prK Try.underlying53 heldR b K.length _ rfl hown ?_; intro w0 hrg0 hg0 hs0)
    | go_in)
  go_frame
  go_loopw [3] (fun all wr => ∃ (left : Lit → Bool) (cnt : Nat) (ss : List Pr), wr.ranges Try.prog 61 heldR b w2.heap.size K.length (MD svD K) left cnt ∧ ss.length + cnt ≤ K.length ∧ Come K left ss ∧ all = .int .i64 (sumOf V ss : Int) ∧ w2.grownBy wr none)
    (fun _ wr => wr.rangeLeft b w2.heap.size)
  case atStart => exact ⟨_, _, [], hrg0, by rw [size_MD]; simp, Come.start h.ok, rfl, hg0⟩
  case round =>
    obtain ⟨left, cnt, ss, hrg, hcs, hC, rfl, hgw⟩ := hrel
    have hsl := sumOf_le hls ss
    go_wp2_with (first
      | (at_next; refine wpList_next_ranges _ rfl _ rfl 61 prK heldR id id (fun key _ _ => ⟨key, rfl⟩) (fun v _ _ => ⟨v, rfl⟩) b w2.heap.size K.length _ _ _ rfl hrg ?_ ?_)
      | go_in)
    · intro _ hl0
      have hS : sumOf V ss = V.length := by
        refine sum_lines ss V hC.1 fun f hf => ?_
        rw [hC.2]
        exact ⟨hls.keyed f hf, hl0 _⟩
      rw [hS] at *
      go_wp2
      go_ret
      exact ⟨rfl, hb2.trans ((below_of_grown hgw).mono hb2.size)⟩
    · intro x c kl yd yp w1 cnt1 hkey hlx hv hat hrg1 hlt hg1 hs1 hen
      obtain ⟨⟨q, s⟩, hp, rfl, rfl⟩ := key_of_has h.ok hkey (has_true_of_atKey hat)
      have hcs2 : c = sv s := by
        have h1 := hat (.held c)
        rw [atKey_MD h.ok hp] at h1
        unfold heldR at hv
        injection hv with hv
        injection hv with e _
        rw [← e] at h1
        injection h1 with h1
        exact h1.symm
      have hsl2 := hls.len q
      rw [lineAt_of h.ok hp] at hsl2
      obtain ⟨s0, s1, s2⟩ := s
      simp only at hsl2
      subst hsl2
      subst hcs2
      have hC2 := hC.step h.ok hp hlx
      have hgw1 := hgw.andThen hg1 (fun j hj => by cases hj; exact Or.inl (Nat.le_refl _))
      have hsn := sumOf_snoc V ss q
      have hfq := hls.full q
      have hpn : pval q = .agg #[.int .i64 q.1, .int .i64 q.2] := rfl
      simp only [sv] at hen ⊢
      obtain ⟨ln, hln⟩ : ∃ ln, (lineOf V q).length = ln := ⟨_, rfl⟩
      obtain ⟨sm, hsm⟩ : ∃ sm, sumOf V ss = sm := ⟨_, rfl⟩
      rw [hln, hsm] at hsn
      rw [hln] at hen hfq ⊢
      rw [hsm] at hsl ⊢
      have HH := Lib.hid (And.intro hC2 (And.intro hsn (And.intro hgw1 hgw)))
      have hsml : sm ≤ 16384 := by omega
      clear hC hC2 hsn hgw hgw1 hln hsm hsl hat hv hkey hp hpn hlx
      go_wp2
      go_roundw
      case rel => exact ⟨_, cnt1, ss ++ [q], hrg1, by rw [List.length_append]; simp; omega, HH.out.1, by rw [HH.out.2.1]; go_num, HH.out.2.2.1⟩
      case measure => rw [hrg1.left_eq, hrg.left_eq]; exact hlt
end
end Go.Proofs.Ytellbmghahgjfaa

/-
  A net's All: what it answers; what its iterator hands over, one flight behind the other, with bytes of its own.
-/
import Derived.Test.YtellbmghahgjfaaNfK
namespace Go.Proofs.Ytellbmghahgjfaa
open Go.RowKit Go Go.Maps Go.WideShapes Go.WideMaps
open NetM
set_option linter.unusedVariables false
set_option linter.unusedSimpArgs false
set_option maxRecDepth 20000
attribute [local go_sem] Oper.semAt_some

theorem yield_deep {m : Nat} (m' l2 : Nat) {P : Program} {l : Nat} {args : Array Value} {W : World} {R : Ending → World → Prop} (h : YieldAt Fence.wide m P l args W R) : YieldAt (Fence.wide.inRound l2) m' P l args W R := by
  obtain ⟨fn, ts, sn, bd, hy, h1, h2⟩ := h
  exact ⟨fn, ts, sn, bd, hy, h1, fun c cs _ => h2 c cs (fun d hd => by cases hd)⟩
theorem isCells_at {W : World} {a : Addr} {v : Value} (h : W.cell? a = some v) : ∃ o : Obj, W.heap[a.block]? = some o ∧ o.isCells = true := by
  unfold World.cell? at h
  cases ho : W.heap[a.block]? with
  | none => simp [ho] at h
  | some o => exact ⟨o, rfl, by cases o <;> simp_all [Obj.isCells]⟩
section
variable {w w' : World} {p b : Nat} {E lost : Int} {m : Option Nat} {K : Kl} {V : List (Fl Pl)} {G : Nat → Prop}
theorem netAll_any (h : Nt w p b E lost K V G) : Calls Try.prog 46 #[.pointer (some ⟨p, 0, none⟩)] w fun e w' => ∃ bx m', e = .returned (.func (.func 51) #[] #[.pointer (some ⟨bx, 0, none⟩)]) ∧ LsAt w' bx (some m') K V G ∧ w.heap.size ≤ bx ∧ w.heap.size ≤ m' ∧ Below w.heap.size w w' := by
  have hk := look_any h
  have hsf : ∀ a b c W, (Instr.field 55 (.agg #[a, b, c]) 1).run Try.prog W = .ok b W := fun a b c W => net_f1 a b c W
  have HC := Lib.hid (show ∀ X, Below w.heap.size w X → Calls Try.prog 30 #[.map (some b)] X fun e w' => e = .returned (.map (some X.heap.size)) ∧ w'.ownsMap Try.prog 61 heldR X.heap.size K.length (MD svD K) ∧ Below X.heap.size X w' from fun X hX => (cloneL_any K.length b K X (h.below hX).map).mono fun e w' ⟨h1, h2, h3, h4⟩ => ⟨h1, h2, h4⟩)
  go_enter Try.func46, Try.ntmps46
  go_wp2_with (first | (go_at_call 43; refine hk.mono ?_; rintro e w2 ⟨rfl, hb⟩) | (go_at_call 30; refine (HC.out w2 hb).mono ?_; rintro e w3 ⟨rfl, hm, hb3⟩))
  go_ret
  have hb4 : Below w.heap.size w (w3.alloc (.cells #[.map (some w2.heap.size)] 53)) := (hb.trans (hb3.mono hb.size)).alloc (by have := hb.size; have := hb3.size; omega) _
  have hl := (h.below hb4).ls
  refine ⟨w3.heap.size, w2.heap.size, rfl, ⟨⟨.inl ⟨_, rfl, ownsMap_keep (S := fun _ => False) hm (.of_below ((Below.refl _ _).alloc (Nat.le_refl _) _)) (fun h => h)⟩, hl.ok, hl.row, hl.by_, hl.inl, hl.inb, hl.glt, hl.sorted, hl.inr, hl.lens, hl.full⟩, (Blk.new w3 _ _).cell 0⟩, Nat.le_trans hb.size hb3.size, hb.size, hb4⟩
/-- The blocks that the one who goes over the flights may turn: its own, and bytes made since. -/
def SO (N : Nat) (zs : Nat → Prop) (k : Nat) (o : Obj) : Prop := zs k ∨ (N ≤ k ∧ ∃ cs m, o = .cells cs 5 m)
/-- The next flight, with bytes of its own. -/
def NextO (V : List (Fl Pl)) (N : Nat) (pre : List Pf) (x : Pf) (W : World) : Prop := ∃ f, V[pre.length]? = some f ∧ x.1 = pre.length ∧ x.2.p = f.p ∧ Own W N 5 (sv x.2.x) f.x.2
/-- What All's loop holds. -/
structure AI (W : World) (B bl yb l : Nat) (m' : Nat) (K : Kl) (V : List (Fl Pl)) (G : Nat → Prop) (J : List Pf → World → Prop) (pre : List Pf) (X : World) : Prop where
  j : ∃ pre', pre'.length = pre.length ∧ J pre' X
  ls : LsAt X bl (some m') K V G
  bl_ : Blk X bl 53 #[.map (some m')]
  yb_ : Blk X yb 84 #[.func (.yield l) #[] #[]]
  sz : B ≤ X.heap.size
  pre_ : pre = enumF (V.take pre.length)
  le : pre.length ≤ V.length
/-- Where it leaves. -/
def AX (B : Nat) (Jx : List Pf → World → Prop) (c : Code) (pre : List Pf) (X : World) : Prop := c = .ret ∧ (∃ pre', Jx pre' X) ∧ B ≤ X.heap.size
set_option maxHeartbeats 8000000 in
theorem allN_any {bx m' : Nat} {zs : Nat → Prop} (hL : LsAt w bx (some m') K V G) (hm' : m' < w.heap.size) (hz : ∀ i, zs i → i < w.heap.size ∧ i ≠ m' ∧ ¬ G i) :
    SeqQ Fence.wide 18 Try.prog 51 #[.pointer (some ⟨bx, 0, none⟩)] encF (fun pre x W => NextO V w.heap.size pre x W) (fun A C => Kq w.heap.size (SO w.heap.size zs) A C ∧ KeepsFrom (w.heap.size + 2) A C) (fun A C => KeepsFrom (w.heap.size + 2) A C) (fun xs => xs.length = V.length) (fun _ => True) V.length w := by
  intro l J Jx W hbW hJ hJx hY h0
  have hfew := hL.1.few
  have hgl := hL.1.glt
  have hbxw := World.block_lt_of_cell? w ⟨bx, 0, none⟩ hL.2
  have hLW := hL.kept hbW (fun c e => by injection e with e; omega) (fun i hi => hgl i hi) hbxw
  have c0 := hLW.2
  have hbxl := World.block_lt_of_cell? W ⟨bx, 0, none⟩ c0
  have HJ := Lib.hid hJ
  have HJX := Lib.hid hJx
  have H0 := Lib.hid h0
  have HY := Lib.hid hY
  have hwW := hbW.size
  show CallsIn Fence.wide 18 Try.prog 51 #[.func (.yield l) #[] #[], .pointer (some ⟨bx, 0, none⟩)] W _
  refine callsIn_of_wp_marks Try.func51 rfl trivial ?_ rfl
  simp only [Try.ntmps51, List.size_toArray, List.length_cons, List.length_nil, Nat.reduceAdd, Nat.reduceSub, Array.replicate_succ, Array.replicate_zero, List.push_toArray, List.append_toArray, List.nil_append, List.cons_append]
  clear hJ h0 hY hJx hbW
  have hbW1 : Below W.heap.size W ((W.alloc (.cells #[.func (.yield l) #[] #[]] 84)).alloc (.cells #[.map (some m')] 53)) := ((Below.refl _ _).alloc (Nat.le_refl _) _).alloc (by simp) _
  have hB1 : Blk ((W.alloc (.cells #[.func (.yield l) #[] #[]] 84)).alloc (.cells #[.map (some m')] 53)) (W.heap.size + 1) 53 #[.map (some m')] := by
    have := Blk.new (W.alloc (.cells #[.func (.yield l) #[] #[]] 84)) 53 #[.map (some m')]
    rw [World.size_alloc] at this
    exact this
  have hY1 : Blk ((W.alloc (.cells #[.func (.yield l) #[] #[]] 84)).alloc (.cells #[.map (some m')] 53)) W.heap.size 84 #[.func (.yield l) #[] #[]] := (Blk.new W _ _).alloc _
  have hsz2 : ((W.alloc (.cells #[.func (.yield l) #[] #[]] 84)).alloc (.cells #[.map (some m')] 53)).heap.size = W.heap.size + 2 := by simp
  have hLs : LsAt ((W.alloc (.cells #[.func (.yield l) #[] #[]] 84)).alloc (.cells #[.map (some m')] 53)) (W.heap.size + 1) (some m') K V G := ⟨hLW.1.below hbW1, hB1.cell 0⟩
  have hI0 := Lib.hid (HJ.out _ _ _ H0.out hbW1)
  gi_wp2_with (first | (refine ⟨trivial, ?_⟩; gi_at_call 50; refine (callsIn_wide.2 (linesAll_any (some m') _)).mono ?_; rintro e w3 ⟨rfl, rfl⟩))
  generalize (W.alloc (.cells #[.func (.yield l) #[] #[]] 84)).alloc (.cells #[.map (some m')] 53) = W2 at hbW1 hLs hI0 hB1 hY1 hsz2 ⊢
  have hAI0 := Lib.hid (show AI W W2.heap.size (W.heap.size + 1) W.heap.size l m' K V G J [] W2 from ⟨⟨[], rfl, hI0.out⟩, hLs, hB1, hY1, Nat.le_refl _, by simp [enumF], Nat.zero_le _⟩)
  have hseq : SeqQ Fence.wide 17 Try.prog 53 #[.pointer (some ⟨W.heap.size + 1, 0, none⟩)] encF (fun pre x _ => NextF V pre x) (Kq w.heap.size (fun k _ => zs k ∨ (w.heap.size ≤ k ∧ k ≠ W.heap.size + 1))) (fun _ _ => True) (fun xs => xs = enumF V) (fun _ => True) V.length W2 := by
    intro l' J' Jx' X hbX hJ' hJx' hY' h0'
    have hlX : LsAt X (W.heap.size + 1) (some m') K V G := hLs.kept hbX (fun c e => by injection e with e; omega) (fun i hi => by have := hgl i hi; omega) (by omega)
    refine (allL_in 17 (by omega) l' (W.heap.size + 1) _ J' Jx' X (fun pre x W1 hj hx hl => (hY' pre x W1 hj hx hl).mono fun e w' he => he.imp id (fun ⟨a, b, _⟩ => ⟨a, b⟩)) (fun X Y hk hX => ?_) hlX h0').mono ?_
    · obtain ⟨o, ho, hoc⟩ := isCells_at hX.2
      have hkb := hk.keep (W.heap.size + 1) o ho (by rintro (h | ⟨_, h⟩); exact absurd (hz _ h).1 (by omega); exact h rfl) (.inr hoc)
      exact ⟨hk.ls hX.1 (fun c e => by injection e with e; subst e; exact ⟨hm', fun o => by rintro (h | ⟨h, _⟩); exact (hz _ h).2.1 rfl; omega⟩) (fun j hj => ⟨hgl j hj, fun o => by rintro (h | ⟨h, _⟩); exact (hz _ h).2.2 hj; have := hgl j hj; omega⟩), (World.cell?_of_block (hkb.trans ho.symm)).trans hX.2⟩
    · rintro e X' ⟨h1, ⟨xs, hx, hj⟩ | ⟨pre, hp, hj⟩⟩
      · exact ⟨h1, .inl ⟨xs, hx, hj⟩⟩
      · exact ⟨h1, .inr ⟨pre, trivial, hj⟩⟩
  have HAK := Lib.hid (show ∀ s A C, AI W W2.heap.size (W.heap.size + 1) W.heap.size l m' K V G J s A → Below W2.heap.size A C → AI W W2.heap.size (W.heap.size + 1) W.heap.size l m' K V G J s C from fun s A C h k => by
    obtain ⟨⟨pre', hp, hj⟩, hls, hb, hy, hs, h1, h2⟩ := h
    exact ⟨⟨pre', hp, HJ.out _ _ _ hj (k.mono hbW1.size)⟩, hls.kept k (fun c e => by injection e with e; omega) (fun i hi => by have := hgl i hi; omega) (by omega), hb.below k (by omega), hy.below k (by omega), Nat.le_trans hs k.size, h1, h2⟩)
  refine' range_q rfl (by omega) (gf := 53) (lb := #[.pointer (some ⟨W.heap.size + 1, 0, none⟩)]) rfl trivial enter_allL hseq (fun {A B C} h k => h.trans k) (fun A o o' ho hc hw => Kq.put A _ o o' (by omega) ho hc) (fun A C h => trivial) (Below.refl _ _) (fun _ => rfl) (fun pre x W l o o' hx _ _ => hx)
    (AI W W2.heap.size (W.heap.size + 1) W.heap.size l m' K V G J) (AX W2.heap.size Jx) (abs_of (fun s X h => h.sz) (fun s A C h k => HAK.out s A C h k)) (fun c => abs_of (fun s W h => h.2.2) (fun s A C h k => ⟨h.1, h.2.1.imp fun pre' hj => HJX.out _ _ _ hj (k.mono hbW1.size), Nat.le_trans h.2.2 k.size⟩)) hAI0.out
    (fun pre x a' X => AI W W2.heap.size (W.heap.size + 1) W.heap.size l m' K V G J pre X ∧ NextF V pre x ∧ ∃ gf, Blk X gf 44 #[.int .i64 x.2.p.1, .int .i64 x.2.p.2, sv x.2.x] ∧ W2.heap.size ≤ gf ∧ a' = { tmps := #[.func (.yield l) #[] #[], .pointer (some ⟨bx, 0, none⟩), .pointer (some ⟨W.heap.size, 0, none⟩), .int .i64 (x.1 : Int), .pointer (some ⟨gf, 0, none⟩), .map (some m'), .func (.func 53) #[] #[.pointer (some ⟨W.heap.size + 1, 0, none⟩)], .int .i64 (x.1 : Int), .agg #[.int .i64 x.2.p.1, .int .i64 x.2.p.2, sv x.2.x], undef, undef, undef, undef, undef, undef, undef, undef, undef], defers := [] }) ?hRb ?assign ?body ?done ?stop
  case hRb =>
    rintro pre x a' X l o o' ⟨h1, h2, gf, h3, h4, rfl⟩ hl ho hc hw
    exact ⟨HAK.out _ _ _ h1 (below_put X l o' hl h1.sz), h2, gf, h3.put_ ho hc o', h4, rfl⟩
  case assign =>
    rintro l pre ⟨x0, ⟨x1, x2⟩, s0, s1, s2⟩ X K' hI hX hlen hK
    simp only [encF, sv]
    gi_wp2
    refine hK _ _ ?_ ?_ ?_
    · exact KeepsFrom.of_below ((Below.refl _ _).alloc (Nat.le_refl _) _)
    · exact Kq.of_below ((Below.refl _ _).alloc (Nat.le_refl _) _)
    · exact ⟨HAK.out _ _ _ hI ((Below.refl _ _).alloc hI.sz _), hX, _, Blk.new _ _ _, hI.sz, rfl⟩
  case stop =>
    rintro D c pre X hD' _ ⟨rfl, ⟨pre', hj⟩, hsz⟩ hDe
    have HK := Lib.hid hDe
    have HJ2 := Lib.hid (HJX.out _ _ _ hj (below_put X D (.deferred none) (Nat.le_trans hbW1.size hD') (Nat.le_trans hbW1.size hsz)))
    clear hDe hj
    gi_wp2
    refine ⟨by simp, .inl ⟨_, _, rfl, run_takeDeferred HK.out, ?_⟩⟩
    exact ⟨_, results_none rfl _ _ _, ⟨_, rfl⟩, .inr ⟨pre', trivial, HJ2.out⟩⟩
  case done =>
    rintro D xs X hD' rfl hAI hDe
    obtain ⟨pre', hp, hj⟩ := hAI.j
    have HK := Lib.hid hDe
    have HJ2 := Lib.hid (HJ.out _ _ _ hj (below_put X D (.deferred none) (Nat.le_trans hbW1.size hD') (Nat.le_trans hbW1.size hAI.sz)))
    have HP := Lib.hid (hp.trans (enumF_len V))
    clear hDe hj hAI hp
    gi_wp2
    refine ⟨by simp, .inl ⟨_, _, rfl, run_takeDeferred HK.out, ?_⟩⟩
    exact ⟨_, results_none rfl _ _ _, ⟨_, rfl⟩, .inl ⟨pre', HP.out, HJ2.out⟩⟩
  case body =>
    rintro l2 pre ⟨x0, ⟨x1, x2⟩, s0, s1, s2⟩ a' X ⟨hAI, ⟨f, hVf, hxf⟩, gf, hgf, hgl2, rfl⟩
    have hlen : pre.length < V.length := (List.getElem?_eq_some_iff.1 hVf).1
    have hmem := List.mem_of_getElem? hVf
    have e0 : x0 = pre.length := congrArg Prod.fst hxf
    have e1 : ((x1, x2) : Pr) = f.p := congrArg (fun x => x.2.p) hxf
    have e2 : ((s0, s1, s2) : Sv) = f.x.1 := congrArg (fun x => x.2.x) hxf
    have hsl := hAI.ls.1.by_ _ hmem
    rw [← e2] at hsl
    have hll := hAI.ls.1.lens _ hmem
    subst e0
    obtain ⟨pre', hp', hj'⟩ := hAI.j
    have HCL := Lib.hid (clone_any (.slice s0 s1 s2) f.x.2 X hsl (by omega))
    have g2 : X.cell? ⟨gf, 2, none⟩ = some (.slice s0 s1 s2) := by rw [hgf.cell]; rfl
    have HAI := Lib.hid hAI
    have HJP := Lib.hid hj'
    clear hsl hll hmem e2 hj' hAI
    have hgl3 : gf < X.heap.size := hgf.lt
    simp only [sv]
    gi_upto_region 5 with (first | (refine ⟨trivial, ?_⟩; gi_at_call 39; refine (callsIn_wide.2 HCL.out).mono ?_; rintro e Xc ⟨v', rfl, ho, hbc⟩; obtain ⟨t0, t1, t2, rfl⟩ := ho.shape; have hgc := hgf.below hbc hgf.lt; have q2 : Xc.cell? ⟨gf, 2, none⟩ = some (.slice s0 s1 s2) := (by rw [hgc.cell]; rfl); have z2 := hgc.frozen 2; have HO := Lib.hid ho; clear ho))
    have hks := Keep.setCell (S := fun i => i = gf) Xc ⟨gf, 2, none⟩ (.slice t0 t1 t2) rfl
    have hXX := HAI.out.sz
    have hb4 : Below W2.heap.size X (Xc.setCell ⟨gf, 2, none⟩ (.slice t0 t1 t2)) := Keep.below (hbc.mono hXX) hks (Nat.le_trans hXX hbc.size) (fun i e => by omega)
    have hg4 : Blk (Xc.setCell ⟨gf, 2, none⟩ (.slice t0 t1 t2)) gf 44 #[.int .i64 x1, .int .i64 x2, .slice t0 t1 t2] := (hgf.below hbc hgf.lt).set_ 2 (.slice t0 t1 t2)
    have hO4 : Own (Xc.setCell ⟨gf, 2, none⟩ (.slice t0 t1 t2)) w.heap.size 5 (.slice t0 t1 t2) f.x.2 := (HO.out.kept hks (fun i cs m hh e => by
      subst e
      have := hh.symm.trans (hgf.below hbc hgf.lt)
      injection this with this
      injection this with _ e2 _
      exact absurd e2 (by decide))).mono (Nat.le_trans (Nat.le_trans hwW hbW1.size) hXX)
    have hkf4 : KeepsFrom W2.heap.size X (Xc.setCell ⟨gf, 2, none⟩ (.slice t0 t1 t2)) := (KeepsFrom.of_below hbc).trans (KeepsFrom.of_keep hks (fun k hk o ho => by
      subst hk
      have := (hgf.below hbc hgf.lt).symm.trans ho
      injection this with this
      rw [← this]; rfl))
    clear hks hgc q2 z2 hgf hbc g2
    generalize Xc.setCell ⟨gf, 2, none⟩ (.slice t0 t1 t2) = X4 at hb4 hg4 hO4 hkf4 ⊢
    have hA4 := HAK.out _ _ _ HAI.out hb4
    have y0 : X4.cell? ⟨W.heap.size, 0, none⟩ = some (.func (.yield l) #[] #[]) := by rw [hA4.yb_.cell]; rfl
    have a0 : X4.cell? ⟨gf, 0, none⟩ = some (.int .i64 x1) := by rw [hg4.cell]; rfl
    have a1 : X4.cell? ⟨gf, 1, none⟩ = some (.int .i64 x2) := by rw [hg4.cell]; rfl
    have a2 : X4.cell? ⟨gf, 2, none⟩ = some (.slice t0 t1 t2) := by rw [hg4.cell]; rfl
    obtain ⟨fn, ts, sn, bd, hy, hR⟩ := yield_deep 15 l2 (HY.out pre' (pre.length, ⟨(x1, x2), (t0, t1, t2)⟩) X4 (HJ.out _ _ _ HJP.out (hb4.mono hbW1.size)) ⟨f, by rw [hp']; exact hVf, hp'.symm, e1, hO4⟩ (by omega))
    simp only [encF, sv] at hy
    have HH := Lib.hid (And.intro hA4 (And.intro hkf4 hb4))
    have HVF := Lib.hid (And.intro hVf (And.intro hxf hp'))
    have hwl : w.heap.size + 2 ≤ W2.heap.size := by omega
    clear hA4 hkf4 hb4 hg4 hO4 hVf hxf e1 hp'
    have hpl : (pre.length : Int) ≤ 16384 := by omega
    have hfinN := Lib.hid (show ∀ W3, J (pre' ++ [(pre.length, ⟨(x1, x2), (t0, t1, t2)⟩)]) W3 → Kq w.heap.size (SO w.heap.size zs) X4 W3 → KeepsFrom (w.heap.size + 2) X4 W3 →
        KeepsFrom W2.heap.size X W3 ∧ Kq w.heap.size (fun k _ => zs k ∨ (w.heap.size ≤ k ∧ k ≠ W.heap.size + 1)) X W3 ∧ AI W W2.heap.size (W.heap.size + 1) W.heap.size l m' K V G J (pre ++ [(pre.length, ⟨(x1, x2), (s0, s1, s2)⟩)]) W3 from fun W3 hJ3 hk3 hf3 => by
      obtain ⟨hA4, hkf4, hb4⟩ := HH.out
      obtain ⟨hVf, hxf, hp'⟩ := HVF.out
      have hbl3 := hk3.blk hA4.bl_ (by rintro (h | ⟨_, cs, m, h⟩); exact absurd (hz _ h).1 (by omega); injection h with _ h _; exact absurd h (by decide))
      have hyb3 := hk3.blk hA4.yb_ (by rintro (h | ⟨_, cs, m, h⟩); exact absurd (hz _ h).1 (by omega); injection h with _ h _; exact absurd h (by decide))
      have hks3 : Kq w.heap.size (fun k _ => zs k ∨ (w.heap.size ≤ k ∧ k ≠ W.heap.size + 1)) X4 W3 := ⟨hk3.size, fun k o ho hn hb => by
        by_cases hkl : k < w.heap.size
        · exact hk3.keep k o ho (by rintro (h | ⟨h, _⟩); exact hn (.inl h); omega) (.inl hkl)
        · by_cases hkb : k = W.heap.size + 1
          · subst hkb
            exact (hbl3.trans hA4.bl_.symm).trans ho
          · exact absurd (Or.inr ⟨by omega, hkb⟩) hn⟩
      refine ⟨hkf4.trans ⟨hf3.size, fun k o hk ho hc => hf3.same k o (by omega) ho hc⟩, Kq.trans ⟨hb4.size, fun k o ho hn hb => ?_⟩ hks3, ⟨pre' ++ [_], by simp [hp'], hJ3⟩, ⟨hks3.ls hA4.ls.1 (fun c e => by injection e with e; subst e; exact ⟨hm', fun o => by rintro (h | ⟨h, _⟩); exact (hz _ h).2.1 rfl; omega⟩) (fun j hj => ⟨hgl j hj, fun o => by rintro (h | ⟨h, _⟩); exact (hz _ h).2.2 hj; have := hgl j hj; omega⟩), hbl3.cell 0⟩, hbl3, hyb3, Nat.le_trans hA4.sz hk3.size, ?_, ?_⟩
      · have hkW : k < W2.heap.size := by
          rcases Nat.lt_or_ge k W2.heap.size with h | h
          · exact h
          · exact absurd (Or.inr ⟨by omega, by omega⟩) hn
        exact (hb4.block k hkW).trans ho
      · rw [List.length_append, List.length_singleton, List.take_succ_eq_append_getElem hlen, enumF_snoc, ← HAI.out.pre_, List.length_take, Nat.min_eq_left (by omega)]
        rw [List.getElem?_eq_getElem hlen] at hVf
        injection hVf with hVf
        rw [hVf, ← hxf]
      · rw [List.length_append, List.length_singleton]; omega)
    gi_wp2
    refine hR.mono ?_
    rintro e W3 (⟨rfl, hJ3, hk3, hf3⟩ | ⟨rfl, hJx3, hf3⟩)
    · clear hy y0 a0 a1 a2
      gi_wp2
      exact hfinN.out W3 hJ3 hk3 hf3
    · clear hy y0 a0 a1 a2
      gi_wp2
      exact ⟨HH.out.2.1.trans ⟨hf3.size, fun k o hk ho hc => hf3.same k o (by omega) ho hc⟩, rfl, ⟨_, hJx3⟩, Nat.le_trans HH.out.1.sz hf3.size⟩
end
end Go.Proofs.Ytellbmghahgjfaa

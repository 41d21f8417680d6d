/-
  once, of a real net: what is gone over is what the document has.
-/
import Derived.Test.YtellbmghahgjfaaNfL
import Derived.Test.YtellbmghahgjfaaRnd
import Derived.Test.YtellbmghahgjfaaNetQ
namespace Go.Proofs.Ytellbmghahgjfaa
open Go.RowKit Go Go.Maps Go.WideShapes Go.WideMaps
open NetM
set_option linter.unusedVariables false
set_option linter.unusedSimpArgs false
set_option maxRecDepth 20000
attribute [local go_sem] Oper.semAt_some

theorem tail_round {P : Program} {n r : Nat} {Q : Exit → Act → World → Prop} {S : World → Prop} (n0 : Nat) {id : Nat} {ops : Array Oper} {a : Act} {w : World} (hm : P.follows .mixedOrders = true) (hnd : noDefer ops = true) (hout : ∀ a w, ¬ Q .outgrown a w) (hB : tailB .any ops n0 = true) (hS : S w.drew)
    (h : S w.drew → Tail P .any ops Q S n0 ops.size (Array.replicate ops.size false) a w.drew) : (Code.region id ops true).wpIn (Fence.wide.inRound r) n P Q a w := by
  refine wpIn_region_any_round hm hnd hout (wpAny_of_tail _ _ _ _ (h hS hB ?_))
  refine ⟨by simp, fun j oj _ hl => (by rw [getD_replicate_false] at hl; cases hl), fun t _ ht => getD_in (by simpa using ht) (getD_replicate_false _ _)⟩
theorem Own.putN {W : World} {base : Nat} {e : TypeId} {v : Value} {L : List UInt8} (h : Own W base e v L) {l : Nat} {o : Obj} (hl : W.heap[l]? = some o) (hc : o.isCells = false) (o' : Obj) : Own (W.putObj l o') base e v L := by
  refine ⟨h.1, ?_⟩
  rcases h.2 with h2 | ⟨k, cap, cur, hv, hk, hh, r⟩
  · exact .inl h2
  · refine .inr ⟨k, cap, cur, hv, hk, (World.putObj_heap_other (fun e => ?_)).trans hh, r⟩
    subst e
    rw [hh] at hl
    injection hl with hl
    rw [← hl] at hc; cases hc
theorem NextO.put {V : List (Fl Pl)} {N : Nat} {pre : List Pf} {x : Pf} {W : World} {l : Nat} {o o' : Obj} (h : NextO V N pre x W) (hl : W.heap[l]? = some o) (hc : o.isCells = false) : NextO V N pre x (W.putObj l o') := by
  obtain ⟨f, h1, h2, h3, h4⟩ := h
  exact ⟨f, h1, h2, h3, h4.putN hl hc o'⟩
/-- What once's loop holds. -/
structure OI (W : World) (x : Nat) (N : Nat) (most : Int) (V : List (Fl Pl)) (k : Nat) (X : World) : Prop where
  bel : Below W.heap.size W X
  sz : N ≤ X.heap.size
  b0 : Blk X W.heap.size 30 #[.pointer (some ⟨x, 0, none⟩)]
  b1 : Blk X (W.heap.size + 1) 3 #[.int .i64 most]
  b2 : Blk X (W.heap.size + 1 + 1) 4 #[.bool false]
  b3 : Blk X (W.heap.size + 1 + 1 + 1) 3 #[.int .i64 (k : Int)]
  le : k ≤ V.length
theorem OI.kept {W : World} {x N : Nat} {most : Int} {V : List (Fl Pl)} {k : Nat} {A C : World} (hN : W.heap.size + 4 ≤ N) (h : OI W x N most V k A) (hk : Below N A C) : OI W x N most V k C :=
  ⟨h.bel.trans (hk.mono (by omega)), Nat.le_trans h.sz hk.size, h.b0.below hk (by omega), h.b1.below hk (by omega), h.b2.below hk (by omega), h.b3.below hk (by omega), h.le⟩
/-- Where it leaves. -/
def OX (W : World) (N : Nat) (c : Code) (pre : List Pf) (X : World) : Prop := c = .ret ∧ Below W.heap.size W X ∧ N ≤ X.heap.size ∧ Blk X (W.heap.size + 1 + 1) 4 #[.bool true]
theorem OX.kept {W : World} {N : Nat} {c : Code} {pre : List Pf} {A C : World} (hN : W.heap.size + 4 ≤ N) (h : OX W N c pre A) (hk : Below N A C) : OX W N c pre C :=
  ⟨h.1, h.2.1.trans (hk.mono (by omega)), Nat.le_trans h.2.2.1 hk.size, h.2.2.2.below hk (by omega)⟩
theorem wrapU8 (x : Nat) (hx : x < 256) : ∃ b : UInt8, IntKind.u8.wrap ((x : Int) + 1) = (b.toNat : Int) := by
  refine ⟨UInt8.ofNat ((x + 1) % 256), ?_⟩
  have h1 : (UInt8.ofNat ((x + 1) % 256)).toNat = (x + 1) % 256 := by simp
  rw [h1]
  show ((x : Int) + 1) % 256 = _
  omega
section
variable {w w' W : World} {B p b x : Nat} {E lv lr : Int} {V R : List (Fl Pl)}
set_option maxHeartbeats 8000000 in
theorem once_any (h : Two B W p b x E lv V lr R) (he : pv V = pv R) (most : Int) : Calls Try.prog 27 #[.pointer (some ⟨p, 0, none⟩), .pointer (some ⟨x, 0, none⟩), .int .i64 most] W fun e W' => e = .returned (.bool true) ∧ Below W.heap.size W W' := by
  have hfo : Try.prog.follows .mixedOrders = true := by kernel_rfl
  have hfew := h.few
  have hlen := Lib.hid (pv_lens he)
  have hlt := h.lt3
  have hxl : x < W.heap.size := hlt x (.inr rfl)
  obtain ⟨K, G, hn, hG⟩ := h.nt
  obtain ⟨s, hr⟩ := h.rf
  obtain ⟨A, c, rfl⟩ := hr.shape
  have hgl := hn.glt
  have hb4 : Below W.heap.size W ((((W.alloc (.cells #[.pointer (some ⟨x, 0, none⟩)] 30)).alloc (.cells #[.int .i64 most] 3)).alloc (.cells #[.bool false] 4)).alloc (.cells #[.int .i64 0] 3)) := ((((Below.refl _ _).alloc (Nat.le_refl _) _).alloc (by simp) _).alloc (by simp; omega) _).alloc (by simp; omega) _
  have B0 := (((Blk.new W 30 #[.pointer (some ⟨x, 0, none⟩)]).alloc (.cells #[.int .i64 most] 3)).alloc (.cells #[.bool false] 4)).alloc (.cells #[.int .i64 0] 3)
  have B1 := ((Blk.new (W.alloc (.cells #[.pointer (some ⟨x, 0, none⟩)] 30)) 3 #[.int .i64 most]).alloc (.cells #[.bool false] 4)).alloc (.cells #[.int .i64 0] 3)
  have B2 := (Blk.new ((W.alloc (.cells #[.pointer (some ⟨x, 0, none⟩)] 30)).alloc (.cells #[.int .i64 most] 3)) 4 #[.bool false]).alloc (.cells #[.int .i64 0] 3)
  have B3 := Blk.new (((W.alloc (.cells #[.pointer (some ⟨x, 0, none⟩)] 30)).alloc (.cells #[.int .i64 most] 3)).alloc (.cells #[.bool false] 4)) 3 #[.int .i64 0]
  simp only [World.size_alloc] at B1 B2 B3
  have hsz4 : ((((W.alloc (.cells #[.pointer (some ⟨x, 0, none⟩)] 30)).alloc (.cells #[.int .i64 most] 3)).alloc (.cells #[.bool false] 4)).alloc (.cells #[.int .i64 0] 3)).heap.size = W.heap.size + 4 := by simp
  refine (callsIn_wide (n := 19)).1 ?_
  refine callsIn_of_wp_marks Try.func27 rfl trivial ?_ rfl
  simp only [Try.ntmps27, List.size_toArray, List.length_cons, List.length_nil, Nat.reduceAdd, Nat.reduceSub, Array.replicate_succ, Array.replicate_zero, List.push_toArray, List.append_toArray, List.nil_append, List.cons_append]
  gi_upto_region 2 with fail
  generalize (((W.alloc (.cells #[.pointer (some ⟨x, 0, none⟩)] 30)).alloc (.cells #[.int .i64 most] 3)).alloc (.cells #[.bool false] 4)).alloc (.cells #[.int .i64 0] 3) = W4 at hb4 B0 B1 B2 B3 hsz4 ⊢
  have HAL := Lib.hid (netAll_any (hn.below hb4))
  have hfn := fun (bx : Nat) (W : World) => nfunc_nil 51 #[.pointer (some ⟨bx, 0, none⟩)] W
  gi_wp2_with (first | (refine ⟨trivial, ?_⟩; gi_at_call 46; refine (callsIn_wide.2 HAL.out).mono ?_; rintro e w5 ⟨bx, m', rfl, hL, hbx, hm4, hb5⟩))
  have hm5 := hL.1.glt
  have hmm : m' < w5.heap.size := by
    rcases hL.1.src with ⟨b', e', hm⟩ | ⟨e', _⟩
    · injection e' with e'; subst e'; exact hm.lt
    · cases e'
  have hsz5 : W.heap.size + 4 ≤ w5.heap.size := by have := hb5.size; omega
  have hOI0 : OI W x w5.heap.size most V 0 w5 := ⟨hb4.trans (hb5.mono hb4.size), Nat.le_refl _, B0.below hb5 B0.lt, B1.below hb5 B1.lt, B2.below hb5 B2.lt, B3.below hb5 B3.lt, Nat.zero_le _⟩
  have HR := Lib.hid (show ∀ X, Below W.heap.size W X → Rn X x (A, R.length, c) E lr R B from fun X hX => hr.below hX)
  have HN := Lib.hid (And.intro hfew he)
  have HLE := Lib.hid hn.lens
  have hseq := allN_any (zs := fun i => i = W.heap.size + 1 + 1 ∨ i = W.heap.size + 1 + 1 + 1) hL hmm (fun i hi => ⟨by omega, by rw [hsz4] at hm4; omega, fun hg => by have := hgl i hg; omega⟩)
  clear HAL B0 B1 B2 B3 hfn hL hbx hm4 hb5 hm5 hmm hb4 hsz4 hgl hG hn hr hlt h he hfew
  have hxlw := Lib.hid hxl
  refine' range_q rfl (by omega) (gf := 51) (lb := #[.pointer (some ⟨bx, 0, none⟩)]) rfl trivial enter_allN hseq (fun {A B C} h k => ⟨h.1.trans k.1, h.2.trans k.2⟩) (fun A o o' ho hc hw => ⟨Kq.put A _ o o' (by omega) ho hc, ⟨Nat.le_of_eq (by unfold World.putObj; simp), fun k u hk hu _ => (World.putObj_heap_other (by omega)).trans hu⟩⟩) (fun A C h => h) (Below.refl _ _) (fun _ => rfl) (fun pre x W l o o' hx hl hc => hx.put hl hc)
    (fun pre X => OI W x w5.heap.size most V pre.length X) (OX W w5.heap.size) (abs_of (fun s X h => h.sz) (fun s A C h k => OI.kept hsz5 h k)) (fun c => abs_of (fun s W h => h.2.2.1) (fun s A C h k => OX.kept (pre := s) hsz5 h k)) hOI0
    (fun pre y a' X => OI W x w5.heap.size most V pre.length X ∧ NextO V w5.heap.size pre y X ∧ ∃ gf, Blk X gf 44 #[.int .i64 y.2.p.1, .int .i64 y.2.p.2, sv y.2.x] ∧ w5.heap.size ≤ gf ∧ a' = { tmps := #[.pointer (some ⟨p, 0, none⟩), .pointer (some ⟨x, 0, none⟩), .int .i64 most, undef, .pointer (some ⟨W.heap.size, 0, none⟩), .pointer (some ⟨W.heap.size + 1, 0, none⟩), .pointer (some ⟨W.heap.size + 1 + 1, 0, none⟩), .pointer (some ⟨W.heap.size + 1 + 1 + 1, 0, none⟩), .func (.func 51) #[] #[.pointer (some ⟨bx, 0, none⟩)], .int .i64 (y.1 : Int), .pointer (some ⟨gf, 0, none⟩), undef, .pointer (some ⟨p, 0, none⟩), .func (.func 51) #[] #[.pointer (some ⟨bx, 0, none⟩)], .func (.func 51) #[] #[.pointer (some ⟨bx, 0, none⟩)], .bool false, .func (.func 51) #[] #[.pointer (some ⟨bx, 0, none⟩)], .int .i64 (y.1 : Int), .agg #[.int .i64 y.2.p.1, .int .i64 y.2.p.2, sv y.2.x], undef, undef, undef, undef, undef, undef, undef, undef, undef, undef, undef, undef, undef, undef, undef, undef, undef, undef, undef, undef, undef, undef, undef, undef, undef, undef, undef, undef, undef, undef, undef, undef, undef, undef, undef, undef, undef, undef, undef, undef, undef, undef, undef, undef, undef, undef, undef, undef, undef, undef, undef, undef, undef], defers := [] }) ?hRb ?assign ?body ?done ?stop
  case hRb =>
    rintro pre y a' X l o o' ⟨h1, h2, gf, h3, h4, rfl⟩ hl ho hc hw
    exact ⟨OI.kept hsz5 h1 (below_put X l o' hl h1.sz), h2.put ho hc, gf, h3.put_ ho hc o', h4, rfl⟩
  case assign =>
    rintro l pre ⟨x0, ⟨x1, x2⟩, s0, s1, s2⟩ X K' hI hX hlen hK
    simp only [encF, sv]
    gi_wp2
    have hal : ∀ o, Below X.heap.size X (X.alloc o) := fun o => (Below.refl _ _).alloc (Nat.le_refl _) _
    refine hK _ _ ?_ ?_ ?_
    · exact KeepsFrom.of_below (hal _)
    · exact ⟨Kq.of_below (hal _), KeepsFrom.of_below (hal _)⟩
    · obtain ⟨f, h1, h2, h3, h4⟩ := hX
      exact ⟨OI.kept hsz5 hI ((hal _).mono hI.sz), ⟨f, h1, h2, h3, h4.alloc _⟩, _, Blk.new _ _ _, hI.sz, rfl⟩
  case stop =>
    rintro D cc pre X hD' _ ⟨rfl, hb, hs, b2⟩ hKd
    have hbe := hb.trans (below_put X D (.deferred none) (by omega) hb.size)
    have hc5 : (X.putObj D (.deferred none)).cell? ⟨W.heap.size + 1 + 1, 0, none⟩ = some (.bool true) := by rw [(b2.put_ hKd rfl _).cell]; rfl
    have HE := Lib.hid (And.intro hKd hbe)
    clear hb b2 hKd hbe
    gi_wp2
    refine ⟨by simp, .inl ⟨_, _, rfl, run_takeDeferred HE.out.1, ?_⟩⟩
    refine ⟨.bool true, ?_, rfl, HE.out.2⟩
    simp [results, Try.f27, go_sem, hc5]
  case done =>
    rintro D xs X hD' hxs hOI hKd
    rw [hxs] at hOI
    have hOD := hOI.bel.trans ((show Below X.heap.size X X.drew from (Below.refl _ _).drew).mono hOI.bel.size)
    have HALL := Lib.hid (show (OI W x w5.heap.size most V V.length X.drew) ∧ X.drew.heap[D]? = some (.deferred (some [])) from ⟨OI.kept hsz5 hOI ((Below.refl _ _).drew.mono hOI.sz), hKd⟩)
    clear hOI hKd hxs hOD
    gi_wp2_with fail
    refine wpIn_wide.2 ?_
    refine wp_region_still_tail 7 hfo (by kernel_rfl) ?_
    simp only [List.take_succ_cons, List.take_zero, List.drop_succ_cons, List.drop_zero]
    change wpStill _ _ X.drew (fun a' => wpList _ _ _ _ a' X.drew) _ _
    generalize X.drew = X at HALL ⊢
    obtain ⟨hOI, hKd⟩ := HALL.out
    have q1 : X.cell? ⟨W.heap.size, 0, none⟩ = some (.pointer (some ⟨x, 0, none⟩)) := by rw [hOI.b0.cell]; rfl
    have q4 : X.cell? ⟨W.heap.size + 1 + 1 + 1, 0, none⟩ = some (.int .i64 (V.length : Int)) := by rw [hOI.b3.cell]; rfl
    have q5 : X.cell? ⟨x, 0, none⟩ = some (.slice A R.length c) := (HR.out X hOI.bel).c0
    rw [hlen.out] at q4
    have z3 := hOI.b2.frozen 0
    have q3 : X.cell? ⟨W.heap.size + 1 + 1, 0, none⟩ = some (.bool false) := by rw [hOI.b2.cell]; rfl
    have hk := Keep.setCell (S := fun i => i = W.heap.size + 1 + 1) X ⟨W.heap.size + 1 + 1, 0, none⟩ (.bool true) rfl
    have hD2 : (X.setCell ⟨W.heap.size + 1 + 1, 0, none⟩ (.bool true)).heap[D]? = some (.deferred (some [])) := (hk.block D (Array.getElem?_eq_some_iff.1 hKd).1 (fun e => by omega)).trans hKd
    have hb2 : Below W.heap.size W (X.setCell ⟨W.heap.size + 1 + 1, 0, none⟩ (.bool true)) := Keep.below hOI.bel hk hOI.bel.size (fun i e => by omega)
    have hbe := hb2.trans (below_put (X.setCell ⟨W.heap.size + 1 + 1, 0, none⟩ (.bool true)) D (.deferred none) (by omega) hb2.size)
    have hc5 : ((X.setCell ⟨W.heap.size + 1 + 1, 0, none⟩ (.bool true)).putObj D (.deferred none)).cell? ⟨W.heap.size + 1 + 1, 0, none⟩ = some (.bool true) := by rw [((hOI.b2.set_ 0 (.bool true)).put_ hD2 rfl _).cell]; rfl
    have HC5 := Lib.hid hc5
    have HE := Lib.hid (And.intro hD2 hbe)
    clear hOI hKd hk hD2 hb2 hbe hc5 HALL
    repeat still_step
    refine wpStill_nil ?_
    go_wp2
    gi_wp2
    refine ⟨by simp, .inl ⟨_, _, rfl, run_takeDeferred HE.out.1, ?_⟩⟩
    have hc5 := HC5.out
    refine ⟨.bool true, ?_, rfl, HE.out.2⟩
    simp [results, Try.f27, go_sem, hc5]
  case body =>
    rintro l2 pre ⟨x0, ⟨x1, x2⟩, s0, s1, s2⟩ a' X ⟨hI, ⟨f, hVf, h1, h2, ho⟩, gf, hgf, hgl, rfl⟩
    have hkV : pre.length < V.length := (List.getElem?_eq_some_iff.1 hVf).1
    have hkR : pre.length < R.length := by rw [← hlen.out]; exact hkV
    have hVk : V[pre.length] = f := by
      rw [List.getElem?_eq_getElem hkV] at hVf
      injection hVf
    have hpa := pv_at HN.out.2 pre.length hkV hkR
    rw [hVk] at hpa
    have hRn := HR.out X hI.bel
    obtain ⟨⟨bs, os, rfl⟩, hcap⟩ := hRn.row1 (by omega)
    have hby := hRn.by_ _ (List.getElem_mem hkR)
    have HFL := Lib.hid (HLE.out f (List.mem_of_getElem? hVf))
    have HCE := Lib.hid (show ∀ Y, Below X.heap.size X Y → _ from fun Y hY => hRn.cells Y hY pre.length hkR)
    obtain ⟨⟨u, ⟨t0, t1, t2⟩, tl⟩, hRk⟩ : ∃ z, R[pre.length] = z := ⟨_, rfl⟩
    rw [hRk] at hpa hby HCE
    have eu : u = (x1, x2) := hpa.1.symm.trans h2.symm
    have el : tl = f.x.2 := hpa.2.symm
    subst eu el
    simp only [sv] at hby HCE
    obtain ⟨kk, hkk⟩ : ∃ n, pre.length = n := ⟨_, rfl⟩
    have e0 : x0 = kk := h1.trans hkk
    subst e0
    have hkM : (x0 : Int) ≤ 16384 := by have := HN.out.1; omega
    rw [hkk] at hI
    have HXI := Lib.hid hI
    have HGF := Lib.hid hgf
    have HOW0 := Lib.hid (show Own X w5.heap.size 5 (.slice s0 s1 s2) f.x.2 from ho)
    have hxr := Lib.hid hRn
    have HCY := Lib.hid (show ∀ Y, Below X.heap.size X Y → Y.cell? ⟨W.heap.size + 1 + 1 + 1, 0, none⟩ = some (.int .i64 (x0 : Int)) ∧ Y.cell? ⟨W.heap.size, 0, none⟩ = some (.pointer (some ⟨x, 0, none⟩)) ∧ Y.cell? ⟨x, 0, none⟩ = some (.slice (some ⟨bs, os, none⟩) R.length c) ∧ Y.cell? ⟨gf, 0, none⟩ = some (.int .i64 x1) ∧ Y.cell? ⟨gf, 1, none⟩ = some (.int .i64 x2) ∧ Y.cell? ⟨gf, 2, none⟩ = some (.slice s0 s1 s2) ∧ Y.cell? ⟨bs, os + x0 * 3, none⟩ = some (.int .i64 x1) ∧ Y.cell? ⟨bs, os + x0 * 3 + 1, none⟩ = some (.int .i64 x2) ∧ Y.cell? ⟨bs, os + x0 * 3 + 2, none⟩ = some (.slice t0 t1 t2) from fun Y hY => by
      have hY3 := HXI.out.b3.below hY HXI.out.b3.lt
      have hY0 := HXI.out.b0.below hY HXI.out.b0.lt
      have hYg := HGF.out.below hY HGF.out.lt
      obtain ⟨d0, d1, d2⟩ := HCE.out Y hY
      rw [hkk] at d0 d1 d2
      exact ⟨by rw [hY3.cell]; rfl, by rw [hY0.cell]; rfl, (hxr.out.below hY).c0, by rw [hYg.cell]; rfl, by rw [hYg.cell]; rfl, by rw [hYg.cell]; rfl, d0, d1, d2⟩)
    have HSM := Lib.hid (show ∀ Y, Below X.heap.size X Y → Calls Try.prog 26 #[.agg #[.int .i64 x1, .int .i64 x2, .slice s0 s1 s2], .agg #[.int .i64 x1, .int .i64 x2, .slice t0 t1 t2]] Y fun e W' => e = .returned (.bool true) ∧ Below Y.heap.size Y W' from fun Y hY => by
      have := same_any (x1, x2) (x1, x2) _ _ f.x.2 f.x.2 Y (HOW0.out.sl.below hY) (hby.below hY)
      rw [sameB_self] at this
      exact this)
    have HKK := Lib.hid (And.intro hkk hkR)
    have hkRn : x0 < R.length := by omega
    have hge : decide ((R.length : Int) ≤ (x0 : Int)) = false := decide_eq_false (by omega)
    have hkRI : (x0 : Int) < (R.length : Int) := by omega
    clear hI ho hgf hRn hkk hkR hby hVf hVk h1 h2 hpa hRk HCE
    simp only [sv]
    gi_upto_region 8 with fail
    refine wpIn_region_held_round (S := fun Z => Below X.heap.size X Z) hfo (by kernel_rfl) (fun _ _ h => h) ((Below.refl _ _).drew) (fun hS0 => ?_)
    generalize X.drew = Z0 at hS0 ⊢
    refine' wpAnyH_take (i := 0) (oi := ⟨some 19, _, _, _, _, _⟩) (v := _) rfl (by kernel_rfl) (by kernel_rfl) (by kernel_rfl) (fun _ _ _ h => h) (Or.inl ⟨by rfl, ?y0o⟩) hS0 ?r0o
    case y0o =>
      intro w' hSw
      obtain ⟨q0, q1, q2, q3, q4, q5, q6, q7, q8⟩ := HCY.out _ hSw
      go_simp
      try simp only [hge]
      try rfl
    try simp only [Act.put, List.setIfInBounds_toArray, List.set_cons_zero, List.set_cons_succ]
    refine' wpAnyH_take (i := 1) (oi := ⟨some 20, _, _, _, _, _⟩) (v := _) rfl (by kernel_rfl) (by kernel_rfl) (by kernel_rfl) (fun _ _ _ h => h) (Or.inl ⟨by rfl, ?y1o⟩) hS0 ?r1o
    case y1o =>
      intro w' hSw
      obtain ⟨q0, q1, q2, q3, q4, q5, q6, q7, q8⟩ := HCY.out _ hSw
      go_simp
      try simp only [hge]
      try rfl
    try simp only [Act.put, List.setIfInBounds_toArray, List.set_cons_zero, List.set_cons_succ]
    refine' wpAnyH_take (i := 2) (oi := ⟨some 21, _, _, _, _, _⟩) (v := _) rfl (by kernel_rfl) (by kernel_rfl) (by kernel_rfl) (fun _ _ _ h => h) (Or.inl ⟨by rfl, ?y2o⟩) hS0 ?r2o
    case y2o =>
      intro w' hSw
      obtain ⟨q0, q1, q2, q3, q4, q5, q6, q7, q8⟩ := HCY.out _ hSw
      go_simp
      try simp only [hge]
      try rfl
    try simp only [Act.put, List.setIfInBounds_toArray, List.set_cons_zero, List.set_cons_succ]
    refine' wpAnyH_take (i := 3) (oi := ⟨some 22, _, _, _, _, _⟩) (v := (.bool false)) rfl (by kernel_rfl) (by kernel_rfl) (by kernel_rfl) (fun _ _ _ h => h) (Or.inl ⟨by rfl, ?y3o⟩) hS0 ?r3o
    case y3o =>
      intro w' hSw
      obtain ⟨q0, q1, q2, q3, q4, q5, q6, q7, q8⟩ := HCY.out _ hSw
      go_simp
      try simp only [hge]
      try rfl
    try simp only [Act.put, List.setIfInBounds_toArray, List.set_cons_zero, List.set_cons_succ]
    refine' wpAnyH_take (i := 4) (oi := ⟨some 23, _, _, _, _, _⟩) (v := _) rfl (by kernel_rfl) (by kernel_rfl) (by kernel_rfl) (fun _ _ _ h => h) (Or.inl ⟨by rfl, ?y4o⟩) hS0 ?r4o
    case y4o =>
      intro w' hSw
      obtain ⟨q0, q1, q2, q3, q4, q5, q6, q7, q8⟩ := HCY.out _ hSw
      go_simp
      try simp only [hge]
      try rfl
    try simp only [Act.put, List.setIfInBounds_toArray, List.set_cons_zero, List.set_cons_succ]
    refine' wpAnyH_take (i := 5) (oi := ⟨some 24, _, _, _, _, _⟩) (v := _) rfl (by kernel_rfl) (by kernel_rfl) (by kernel_rfl) (fun _ _ _ h => h) (Or.inl ⟨by rfl, ?y5o⟩) hS0 ?r5o
    case y5o =>
      intro w' hSw
      obtain ⟨q0, q1, q2, q3, q4, q5, q6, q7, q8⟩ := HCY.out _ hSw
      go_simp
      try simp only [hge]
      try rfl
    try simp only [Act.put, List.setIfInBounds_toArray, List.set_cons_zero, List.set_cons_succ]
    refine' wpAnyH_take (i := 6) (oi := ⟨some 25, _, _, _, _, _⟩) (v := _) rfl (by kernel_rfl) (by kernel_rfl) (by kernel_rfl) (fun _ _ _ h => h) (Or.inl ⟨by rfl, ?y6o⟩) hS0 ?r6o
    case y6o =>
      intro w' hSw
      obtain ⟨q0, q1, q2, q3, q4, q5, q6, q7, q8⟩ := HCY.out _ hSw
      go_simp
      try simp only [hge]
      try rfl
    try simp only [Act.put, List.setIfInBounds_toArray, List.set_cons_zero, List.set_cons_succ]
    refine' wpAnyH_take (i := 7) (oi := ⟨some 26, _, _, _, _, _⟩) (v := _) rfl (by kernel_rfl) (by kernel_rfl) (by kernel_rfl) (fun _ _ _ h => h) (Or.inl ⟨by rfl, ?y7o⟩) hS0 ?r7o
    case y7o =>
      intro w' hSw
      obtain ⟨q0, q1, q2, q3, q4, q5, q6, q7, q8⟩ := HCY.out _ hSw
      go_simp
      try simp only [hge]
      try rfl
    try simp only [Act.put, List.setIfInBounds_toArray, List.set_cons_zero, List.set_cons_succ]
    refine' wpAnyH_take (i := 8) (oi := ⟨some 27, _, _, _, _, _⟩) (v := _) rfl (by kernel_rfl) (by kernel_rfl) (by kernel_rfl) (fun _ _ _ h => h) (Or.inl ⟨by rfl, ?y8o⟩) hS0 ?r8o
    case y8o =>
      intro w' hSw
      obtain ⟨q0, q1, q2, q3, q4, q5, q6, q7, q8⟩ := HCY.out _ hSw
      go_simp
      try simp only [hge]
      try rfl
    try simp only [Act.put, List.setIfInBounds_toArray, List.set_cons_zero, List.set_cons_succ]
    refine' wpAnyH_take (i := 9) (oi := ⟨some 28, _, _, _, _, _⟩) (v := _) rfl (by kernel_rfl) (by kernel_rfl) (by kernel_rfl) (fun _ _ _ h => h) (Or.inl ⟨by rfl, ?y9o⟩) hS0 ?r9o
    case y9o =>
      intro w' hSw
      obtain ⟨q0, q1, q2, q3, q4, q5, q6, q7, q8⟩ := HCY.out _ hSw
      go_simp
      try simp only [hge]
      try rfl
    try simp only [Act.put, List.setIfInBounds_toArray, List.set_cons_zero, List.set_cons_succ]
    refine' wpAnyH_take (i := 10) (oi := ⟨some 29, _, _, _, _, _⟩) (v := (.bool false)) rfl (by kernel_rfl) (by kernel_rfl) (by kernel_rfl) (fun _ _ _ h => h) (Or.inl ⟨by rfl, ?y10o⟩) hS0 ?r10o
    case y10o =>
      intro w' hSw
      obtain ⟨q0, q1, q2, q3, q4, q5, q6, q7, q8⟩ := HCY.out _ hSw
      go_simp
      try simp only [hge]
      try rfl
    try simp only [Act.put, List.setIfInBounds_toArray, List.set_cons_zero, List.set_cons_succ]
    refine' wpAnyH_take (i := 11) (oi := ⟨some 30, _, _, _, _, _⟩) (v := (.bool false)) rfl (by kernel_rfl) (by kernel_rfl) (by kernel_rfl) (fun _ _ _ h => h) (Or.inl ⟨by rfl, ?y11o⟩) hS0 ?r11o
    case y11o =>
      intro w' hSw
      obtain ⟨q0, q1, q2, q3, q4, q5, q6, q7, q8⟩ := HCY.out _ hSw
      go_simp
      try simp only [hge]
      try rfl
    try simp only [Act.put, List.setIfInBounds_toArray, List.set_cons_zero, List.set_cons_succ]
    refine' wpAnyH_take (i := 12) (oi := ⟨some 31, _, _, _, _, _⟩) (v := (.bool false)) rfl (by kernel_rfl) (by kernel_rfl) (by kernel_rfl) (fun _ _ _ h => h) (Or.inl ⟨by rfl, ?y12o⟩) hS0 ?r12o
    case y12o =>
      intro w' hSw
      obtain ⟨q0, q1, q2, q3, q4, q5, q6, q7, q8⟩ := HCY.out _ hSw
      go_simp
      try simp only [hge]
      try rfl
    try simp only [Act.put, List.setIfInBounds_toArray, List.set_cons_zero, List.set_cons_succ]
    refine' wpAnyH_take (i := 13) (oi := ⟨some 32, _, _, _, _, _⟩) (v := (.agg #[.int .i64 x1, .int .i64 x2, .slice s0 s1 s2])) rfl (by kernel_rfl) (by kernel_rfl) (by kernel_rfl) (fun _ _ _ h => h) (Or.inl ⟨by rfl, ?y13o⟩) hS0 ?r13o
    case y13o =>
      intro w' hSw
      obtain ⟨q0, q1, q2, q3, q4, q5, q6, q7, q8⟩ := HCY.out _ hSw
      go_simp
      try simp only [hge]
      try rfl
    try simp only [Act.put, List.setIfInBounds_toArray, List.set_cons_zero, List.set_cons_succ]
    refine' wpAnyH_take (i := 14) (oi := ⟨some 33, _, _, _, _, _⟩) (v := _) rfl (by kernel_rfl) (by kernel_rfl) (by kernel_rfl) (fun _ _ _ h => h) (Or.inl ⟨by rfl, ?y14o⟩) hS0 ?r14o
    case y14o =>
      intro w' hSw
      obtain ⟨q0, q1, q2, q3, q4, q5, q6, q7, q8⟩ := HCY.out _ hSw
      go_simp
      try simp only [hge]
      try rfl
    try simp only [Act.put, List.setIfInBounds_toArray, List.set_cons_zero, List.set_cons_succ]
    refine' wpAnyH_take (i := 15) (oi := ⟨some 34, _, _, _, _, _⟩) (v := _) rfl (by kernel_rfl) (by kernel_rfl) (by kernel_rfl) (fun _ _ _ h => h) (Or.inl ⟨by rfl, ?y15o⟩) hS0 ?r15o
    case y15o =>
      intro w' hSw
      obtain ⟨q0, q1, q2, q3, q4, q5, q6, q7, q8⟩ := HCY.out _ hSw
      go_simp
      try simp only [hge]
      try rfl
    try simp only [Act.put, List.setIfInBounds_toArray, List.set_cons_zero, List.set_cons_succ]
    refine' wpAnyH_take (i := 16) (oi := ⟨some 35, _, _, _, _, _⟩) (v := _) rfl (by kernel_rfl) (by kernel_rfl) (by kernel_rfl) (fun _ _ _ h => h) (Or.inl ⟨by rfl, ?y16o⟩) hS0 ?r16o
    case y16o =>
      intro w' hSw
      obtain ⟨q0, q1, q2, q3, q4, q5, q6, q7, q8⟩ := HCY.out _ hSw
      go_simp
      try simp only [hge]
      try rfl
    try simp only [Act.put, List.setIfInBounds_toArray, List.set_cons_zero, List.set_cons_succ]
    refine' wpAnyH_take (i := 17) (oi := ⟨some 36, _, _, _, _, _⟩) (v := _) rfl (by kernel_rfl) (by kernel_rfl) (by kernel_rfl) (fun _ _ _ h => h) (Or.inl ⟨by rfl, ?y17o⟩) hS0 ?r17o
    case y17o =>
      intro w' hSw
      obtain ⟨q0, q1, q2, q3, q4, q5, q6, q7, q8⟩ := HCY.out _ hSw
      go_simp
      try simp only [hge]
      try rfl
    try simp only [Act.put, List.setIfInBounds_toArray, List.set_cons_zero, List.set_cons_succ]
    refine' wpAnyH_take (i := 18) (oi := ⟨some 37, _, _, _, _, _⟩) (v := _) rfl (by kernel_rfl) (by kernel_rfl) (by kernel_rfl) (fun _ _ _ h => h) (Or.inl ⟨by rfl, ?y18o⟩) hS0 ?r18o
    case y18o =>
      intro w' hSw
      obtain ⟨q0, q1, q2, q3, q4, q5, q6, q7, q8⟩ := HCY.out _ hSw
      go_simp
      try simp only [hge]
      try rfl
    try simp only [Act.put, List.setIfInBounds_toArray, List.set_cons_zero, List.set_cons_succ]
    refine' wpAnyH_take (i := 19) (oi := ⟨some 38, _, _, _, _, _⟩) (v := _) rfl (by kernel_rfl) (by kernel_rfl) (by kernel_rfl) (fun _ _ _ h => h) (Or.inl ⟨by rfl, ?y19o⟩) hS0 ?r19o
    case y19o =>
      intro w' hSw
      obtain ⟨q0, q1, q2, q3, q4, q5, q6, q7, q8⟩ := HCY.out _ hSw
      go_simp
      try simp only [hge]
      try rfl
    try simp only [Act.put, List.setIfInBounds_toArray, List.set_cons_zero, List.set_cons_succ]
    refine' wpAnyH_take (i := 20) (oi := ⟨some 39, _, _, _, _, _⟩) (v := (.agg #[.int .i64 x1, .int .i64 x2, .slice t0 t1 t2])) rfl (by kernel_rfl) (by kernel_rfl) (by kernel_rfl) (fun _ _ _ h => h) (Or.inl ⟨by rfl, ?y20o⟩) hS0 ?r20o
    case y20o =>
      intro w' hSw
      obtain ⟨q0, q1, q2, q3, q4, q5, q6, q7, q8⟩ := HCY.out _ hSw
      go_simp
      try simp only [hge]
      try rfl
    try simp only [Act.put, List.setIfInBounds_toArray, List.set_cons_zero, List.set_cons_succ]
    refine held_one (i := 21) (by kernel_rfl) rfl (fun Kc hK => ?_)
    refine held_wanted' rfl (by rfl) ?_
    go_simp
    refine (HSM.out _ hS0).mono ?_
    rintro e Z1 ⟨rfl, hb1⟩
    have hS1 := hS0.trans (hb1.mono hS0.size)
    refine hK.out _ _ hS1 (fun _ => ?_)
    clear hK Kc
    try simp only [Act.put, List.setIfInBounds_toArray, List.set_cons_zero, List.set_cons_succ]
    refine' wpAnyH_take (i := 22) (oi := ⟨some 41, _, _, _, _, _⟩) (v := (.bool false)) rfl (by kernel_rfl) (by kernel_rfl) (by kernel_rfl) (fun _ _ _ h => h) (Or.inl ⟨by rfl, ?y22o⟩) hS1 ?r22o
    case y22o =>
      intro w' hSw
      obtain ⟨q0, q1, q2, q3, q4, q5, q6, q7, q8⟩ := HCY.out _ hSw
      go_simp
      try simp only [hge]
      try rfl
    try simp only [Act.put, List.setIfInBounds_toArray, List.set_cons_zero, List.set_cons_succ]
    refine' wpAnyH_take (i := 23) (oi := ⟨some 42, _, _, _, _, _⟩) (v := (.bool false)) rfl (by kernel_rfl) (by kernel_rfl) (by kernel_rfl) (fun _ _ _ h => h) (Or.inl ⟨by rfl, ?y23o⟩) hS1 ?r23o
    case y23o =>
      intro w' hSw
      obtain ⟨q0, q1, q2, q3, q4, q5, q6, q7, q8⟩ := HCY.out _ hSw
      go_simp
      try simp only [hge]
      try rfl
    try simp only [Act.put, List.setIfInBounds_toArray, List.set_cons_zero, List.set_cons_succ]
    refine wpAnyH_done (by kernel_rfl) ?_ _
    have HZ := Lib.hid hS1
    have HS1 := Lib.hid (show s1 = f.x.2.length from HOW0.out.sl.len)
    have hlM : (s1 : Int) ≤ 1048576 := by have := HS1.out; have := HFL.out; omega
    have HGD := Lib.hid (show ¬ (Value.slice s0 s1 s2).ownBlock = some gf from fun e => by
      obtain ⟨_, cs, m, hh⟩ := Own.typed (s := (s0, s1, s2)) HOW0.out gf (sv_block e)
      have := hh.symm.trans HGF.out
      injection this with this
      injection this with _ e2 _
      exact absurd e2 (by decide))
    have HOB := Lib.hid (show ∀ i, (Value.slice s0 s1 s2).ownBlock = some i → w5.heap.size ≤ i ∧ ∃ cs m, X.heap[i]? = some (.cells cs 5 m) from fun i e => Own.typed (s := (s0, s1, s2)) HOW0.out i (sv_block e))
    have HU := Lib.hid (show ∀ Y, Keep (fun i => (Value.slice s0 s1 s2).ownBlock = some i ∨ i = W.heap.size + 1 + 1 ∨ i = W.heap.size + 1 + 1 + 1) X Y → KeepsFrom w5.heap.size X Y ∧ (Kq w5.heap.size (SO w5.heap.size fun i => i = W.heap.size + 1 + 1 ∨ i = W.heap.size + 1 + 1 + 1) X Y ∧ KeepsFrom (w5.heap.size + 2) X Y) ∧ Below W.heap.size W Y ∧ w5.heap.size ≤ Y.heap.size ∧ Blk Y W.heap.size 30 #[.pointer (some ⟨x, 0, none⟩)] ∧ Blk Y (W.heap.size + 1) 3 #[.int .i64 most] from fun Y k => by
      have hI := HXI.out
      have hc : ∀ j, ((Value.slice s0 s1 s2).ownBlock = some j ∨ j = W.heap.size + 1 + 1 ∨ j = W.heap.size + 1 + 1 + 1) → ∀ o, X.heap[j]? = some o → o.isCells = true := by
        rintro j (h | rfl | rfl) o ho
        · obtain ⟨_, cs, m, hh⟩ := HOB.out j h
          rw [hh] at ho; injection ho with ho; rw [← ho]; rfl
        · have := hI.b2.symm.trans ho; injection this with this; rw [← this]; rfl
        · have := hI.b3.symm.trans ho; injection this with this; rw [← this]; rfl
      have hge : ∀ j, ((Value.slice s0 s1 s2).ownBlock = some j ∨ j = W.heap.size + 1 + 1 ∨ j = W.heap.size + 1 + 1 + 1) → W.heap.size + 2 ≤ j := by
        rintro j (h | rfl | rfl)
        · have := (HOB.out j h).1; omega
        · omega
        · omega
      refine ⟨KeepsFrom.of_keep k hc, ⟨⟨k.size, fun j o ho hn _ => (k.block j (Array.getElem?_eq_some_iff.1 ho).1 ?_).trans ho⟩, KeepsFrom.of_keep k hc⟩, Keep.below hI.bel k hI.bel.size (fun j hj => by have := hge j hj; omega), Nat.le_trans hI.sz k.size, hI.b0.kept k (fun h => by have := hge _ h; omega), hI.b1.kept k (fun h => by have := hge _ h; omega)⟩
      rintro (h | h)
      · obtain ⟨h1, cs, m, hh⟩ := HOB.out j h
        rw [hh] at ho; injection ho with ho
        exact hn (.inr ⟨h1, cs, m, ho.symm⟩)
      · exact hn (.inl h))
    have HB3 := Lib.hid (show ∀ Y, Keep (fun i => (Value.slice s0 s1 s2).ownBlock = some i) X Y → Blk Y (W.heap.size + 1 + 1 + 1) 3 #[.int .i64 (x0 : Int)] ∧ Blk Y (W.heap.size + 1 + 1) 4 #[.bool false] ∧ Blk Y (W.heap.size + 1) 3 #[.int .i64 most] ∧ Blk Y gf 44 #[.int .i64 x1, .int .i64 x2, .slice s0 s1 s2] from fun Y k => by
      have hn : ∀ i, i < w5.heap.size → ¬ (Value.slice s0 s1 s2).ownBlock = some i := fun i hi e => by have := (HOB.out i e).1; omega
      exact ⟨HXI.out.b3.kept k (hn _ (by omega)), HXI.out.b2.kept k (hn _ (by omega)), HXI.out.b1.kept k (hn _ (by omega)), HGF.out.kept k HGD.out⟩)
    have HO1 := Lib.hid (HOW0.out.below HZ.out (by have := HXI.out.sz; omega))
    clear HSM HCY hS1 hge hkRI hkRn
    gi_wp2
    gi_loopw [11] (fun z wx => ∃ (j : Nat) (L : List UInt8), z = .int .i64 (j : Int) ∧ j ≤ s1 ∧ L.length = s1 ∧ Own wx w5.heap.size 5 (.slice s0 s1 s2) L ∧ Keep (fun i => (Value.slice s0 s1 s2).ownBlock = some i) X wx) (fun z _ => s1 - (intOf z).toNat)
    case atStart => exact ⟨0, f.x.2, rfl, Nat.zero_le _, HS1.out.symm, HO1.out, .of_below HZ.out⟩
    case round =>
      obtain ⟨j, L, rfl, hj, hL, ho, hkr⟩ := hrel
      have HL := Lib.hid hL
      clear hL
      have hjM : (j : Int) ≤ 1048576 := by omega
      have hj0 : (0 : Int) ≤ (j : Int) := by omega
      obtain ⟨hb3, hb2, hb1, hgf⟩ := HB3.out wr hkr
      by_cases hlt2 : j < s1
      · clear hb3 hb2 hb1
        have hjI : (j : Int) < (s1 : Int) := by omega
        have g2 : wr.cell? ⟨gf, 2, none⟩ = some (.slice s0 s1 s2) := by rw [hgf.cell]; rfl
        obtain ⟨g, rfl, hg, hcell, hfr, hgl2⟩ := ho.byteAt_ j (by have := HL.out; omega)
        obtain ⟨y, hy⟩ : ∃ y, (L[j]'(by have := HL.out; omega)).toNat = y := ⟨_, rfl⟩
        have hy256 : y < 256 := by rw [← hy]; exact UInt8.toNat_lt _
        rw [hy] at hcell
        obtain ⟨b2, hwu⟩ := wrapU8 y hy256
        have HCB := Lib.hid (show ∀ Y, Below wr.heap.size wr Y → Y.cell? ⟨gf, 2, none⟩ = some (.slice (some ⟨g, 0, none⟩) s1 s2) ∧ Y.cell? ⟨g, j, none⟩ = some (.int .u8 (y : Int)) from fun Y hY => ⟨(hY.cell (World.block_lt_of_cell? wr _ g2)).trans g2, (hY.cell (World.block_lt_of_cell? wr _ hcell)).trans hcell⟩)
        have HGB := Lib.hid (show ∀ Y, Below wr.heap.size wr Y → Y.cell? ⟨g, j, none⟩ = some (.int .u8 (y : Int)) ∧ Y.frozen? ⟨g, j, none⟩ = false ∧ g < Y.heap.size ∧ Own Y w5.heap.size 5 (.slice (some ⟨g, 0, none⟩) s1 s2) L from fun Y hY => by
          have hoY := ho.below hY (by have := hkr.size; have := HXI.out.sz; omega)
          obtain ⟨g', e', _, _, hfY, hlY⟩ := hoY.byteAt_ j (by have := HL.out; omega)
          injection e' with e'
          injection e' with e' _ _
          subst e'
          exact ⟨(HCB.out Y hY).2, hfY, hlY, hoY⟩)
        have HKR := Lib.hid hkr
        clear hy hkr ho hcell hfr hgl2 hgf
        gi_upto_region 13 with fail
        clear g2
        refine tail_round 10 (S := fun Z => Below wr.heap.size wr Z) hfo (by kernel_rfl) (fun _ _ h => h) (by kernel_rfl) ((Below.refl _ _).drew) (fun hS0 => ?_)
        generalize wr.drew = Z0 at hS0 ⊢
        refine' tail_take (i := 0) (oi := ⟨some 50, _, _, _, _, _⟩) (v := _) rfl (by kernel_rfl) (by kernel_rfl) (by decide) (fun _ _ _ h => h) (Or.inl ⟨by rfl, ?y0b⟩) hS0 ?r0b
        case y0b =>
          intro w' hSw
          obtain ⟨q0, q1⟩ := HCB.out _ hSw
          go_simp
          try simp only [hwu]
          try rfl
        try simp only [Act.put, List.setIfInBounds_toArray, List.set_cons_zero, List.set_cons_succ]
        refine' tail_take (i := 1) (oi := ⟨some 51, _, _, _, _, _⟩) (v := _) rfl (by kernel_rfl) (by kernel_rfl) (by decide) (fun _ _ _ h => h) (Or.inl ⟨by rfl, ?y1b⟩) hS0 ?r1b
        case y1b =>
          intro w' hSw
          obtain ⟨q0, q1⟩ := HCB.out _ hSw
          go_simp
          try simp only [hwu]
          try rfl
        try simp only [Act.put, List.setIfInBounds_toArray, List.set_cons_zero, List.set_cons_succ]
        refine' tail_take (i := 2) (oi := ⟨some 52, _, _, _, _, _⟩) (v := _) rfl (by kernel_rfl) (by kernel_rfl) (by decide) (fun _ _ _ h => h) (Or.inl ⟨by rfl, ?y2b⟩) hS0 ?r2b
        case y2b =>
          intro w' hSw
          obtain ⟨q0, q1⟩ := HCB.out _ hSw
          go_simp
          try simp only [hwu]
          try rfl
        try simp only [Act.put, List.setIfInBounds_toArray, List.set_cons_zero, List.set_cons_succ]
        refine' tail_take (i := 3) (oi := ⟨some 53, _, _, _, _, _⟩) (v := _) rfl (by kernel_rfl) (by kernel_rfl) (by decide) (fun _ _ _ h => h) (Or.inl ⟨by rfl, ?y3b⟩) hS0 ?r3b
        case y3b =>
          intro w' hSw
          obtain ⟨q0, q1⟩ := HCB.out _ hSw
          go_simp
          try simp only [hwu]
          try rfl
        try simp only [Act.put, List.setIfInBounds_toArray, List.set_cons_zero, List.set_cons_succ]
        refine' tail_take (i := 4) (oi := ⟨some 54, _, _, _, _, _⟩) (v := _) rfl (by kernel_rfl) (by kernel_rfl) (by decide) (fun _ _ _ h => h) (Or.inl ⟨by rfl, ?y4b⟩) hS0 ?r4b
        case y4b =>
          intro w' hSw
          obtain ⟨q0, q1⟩ := HCB.out _ hSw
          go_simp
          try simp only [hwu]
          try rfl
        try simp only [Act.put, List.setIfInBounds_toArray, List.set_cons_zero, List.set_cons_succ]
        refine' tail_take (i := 5) (oi := ⟨some 55, _, _, _, _, _⟩) (v := _) rfl (by kernel_rfl) (by kernel_rfl) (by decide) (fun _ _ _ h => h) (Or.inl ⟨by rfl, ?y5b⟩) hS0 ?r5b
        case y5b =>
          intro w' hSw
          obtain ⟨q0, q1⟩ := HCB.out _ hSw
          go_simp
          try simp only [hwu]
          try rfl
        try simp only [Act.put, List.setIfInBounds_toArray, List.set_cons_zero, List.set_cons_succ]
        refine' tail_take (i := 6) (oi := ⟨some 56, _, _, _, _, _⟩) (v := _) rfl (by kernel_rfl) (by kernel_rfl) (by decide) (fun _ _ _ h => h) (Or.inl ⟨by rfl, ?y6b⟩) hS0 ?r6b
        case y6b =>
          intro w' hSw
          obtain ⟨q0, q1⟩ := HCB.out _ hSw
          go_simp
          try simp only [hwu]
          try rfl
        try simp only [Act.put, List.setIfInBounds_toArray, List.set_cons_zero, List.set_cons_succ]
        refine' tail_take (i := 7) (oi := ⟨some 57, _, _, _, _, _⟩) (v := _) rfl (by kernel_rfl) (by kernel_rfl) (by decide) (fun _ _ _ h => h) (Or.inl ⟨by rfl, ?y7b⟩) hS0 ?r7b
        case y7b =>
          intro w' hSw
          obtain ⟨q0, q1⟩ := HCB.out _ hSw
          go_simp
          try simp only [hwu]
          try rfl
        try simp only [Act.put, List.setIfInBounds_toArray, List.set_cons_zero, List.set_cons_succ]
        refine' tail_take (i := 8) (oi := ⟨some 58, _, _, _, _, _⟩) (v := (.int .u8 (b2.toNat : Int))) rfl (by kernel_rfl) (by kernel_rfl) (by decide) (fun _ _ _ h => h) (Or.inl ⟨by rfl, ?y8b⟩) hS0 ?r8b
        case y8b =>
          intro w' hSw
          obtain ⟨q0, q1⟩ := HCB.out _ hSw
          go_simp
          try simp only [hwu]
          try rfl
        try simp only [Act.put, List.setIfInBounds_toArray, List.set_cons_zero, List.set_cons_succ]
        refine' tail_take (i := 9) (oi := ⟨some 59, _, _, _, _, _⟩) (v := _) rfl (by kernel_rfl) (by kernel_rfl) (by decide) (fun _ _ _ h => h) (Or.inl ⟨by rfl, ?y9b⟩) hS0 ?r9b
        case y9b =>
          intro w' hSw
          obtain ⟨q0, q1⟩ := HCB.out _ hSw
          go_simp
          try simp only [hwu]
          try rfl
        try simp only [Act.put, List.setIfInBounds_toArray, List.set_cons_zero, List.set_cons_succ]
        have hg0 := HGB.out Z0 hS0
        obtain ⟨hcell, hfr, hgl2, hown⟩ := hg0
        have HOW := Lib.hid hown
        clear hown
        refine tail_last (by kernel_rfl) rfl (by kernel_rfl) (fun Kc hK => ?_)
        go_simp
        refine hK.out _ _ ?_
        clear hK Kc
        have HS0 := Lib.hid hS0
        clear hS0 hcell hfr hgl2
        gi_wp2
        go_roundw
        case rel => exact ⟨j + 1, L.set j b2, by go_num, by omega, by rw [List.length_set]; exact HL.out, HOW.out.putB j b2, (HKR.out.trans (Keep.of_below HS0.out) (fun _ h => h) (fun _ _ h => h)).trans (Keep.setCell (S := fun i => (Value.slice (some ⟨g, 0, none⟩) s1 s2).ownBlock = some i) Z0 ⟨g, j, none⟩ (.int .u8 (b2.toNat : Int)) rfl) (fun _ h => h) (fun _ _ h => h)⟩
        case measure => simp [intOf]; omega
      · obtain rfl : j = s1 := by omega
        have g2 : wr.cell? ⟨gf, 2, none⟩ = some (.slice s0 j s2) := by rw [hgf.cell]; rfl
        have hcc : wr.cell? ⟨W.heap.size + 1 + 1 + 1, 0, none⟩ = some (.int .i64 (x0 : Int)) := by rw [hb3.cell]; rfl
        have hcf := hb3.frozen 0
        have hcl := hb3.lt
        have hmo : wr.cell? ⟨W.heap.size + 1, 0, none⟩ = some (.int .i64 most) := by rw [hb1.cell]; rfl
        have hrs : wr.cell? ⟨W.heap.size + 1 + 1, 0, none⟩ = some (.bool false) := by rw [hb2.cell]; rfl
        have hrf := hb2.frozen 0
        have hrl := hb2.lt
        have HKR := Lib.hid hkr
        have HBB := Lib.hid (And.intro hb3 hb2)
        clear hkr hb3 hb2 hb1 hgf ho
        gi_upto_region 14 with fail
        clear g2
        by_cases hmost : (x0 : Int) + 1 = most
        · have hmb : ((x0 : Int) + 1 == most) = true := by simp [hmost]
          clear hmost
          gi_wp2
          have hk1 : Keep (fun i => (Value.slice s0 j s2).ownBlock = some i ∨ i = W.heap.size + 1 + 1 ∨ i = W.heap.size + 1 + 1 + 1) X (wr.setCell ⟨W.heap.size + 1 + 1 + 1, 0, none⟩ (.int .i64 ((x0 : Int) + 1))) := (HKR.out.mono (T := (fun i => (Value.slice s0 j s2).ownBlock = some i ∨ i = W.heap.size + 1 + 1 ∨ i = W.heap.size + 1 + 1 + 1)) (fun i e => Or.inl e)).trans (Keep.setCell (S := (fun i => (Value.slice s0 j s2).ownBlock = some i ∨ i = W.heap.size + 1 + 1 ∨ i = W.heap.size + 1 + 1 + 1)) wr ⟨W.heap.size + 1 + 1 + 1, 0, none⟩ _ (.inr (.inr rfl))) (fun _ h => h) (fun _ _ h => h)
          have hk2 := hk1.trans (Keep.setCell (S := (fun i => (Value.slice s0 j s2).ownBlock = some i ∨ i = W.heap.size + 1 + 1 ∨ i = W.heap.size + 1 + 1 + 1)) (wr.setCell ⟨W.heap.size + 1 + 1 + 1, 0, none⟩ (.int .i64 ((x0 : Int) + 1))) ⟨W.heap.size + 1 + 1, 0, none⟩ (.bool true) (.inr (.inl rfl))) (fun _ h => h) (fun _ _ h => h)
          obtain ⟨f1, f2, f3, f4, f5, f6⟩ := HU.out _ hk2
          exact ⟨f1, rfl, f3, f4, (HBB.out.2.far (by simp) _).set_ 0 (.bool true)⟩
        · have hmb : ((x0 : Int) + 1 == most) = false := by simp [hmost]
          clear hmost
          gi_wp2
          have hk1 : Keep (fun i => (Value.slice s0 j s2).ownBlock = some i ∨ i = W.heap.size + 1 + 1 ∨ i = W.heap.size + 1 + 1 + 1) X (wr.setCell ⟨W.heap.size + 1 + 1 + 1, 0, none⟩ (.int .i64 ((x0 : Int) + 1))) := (HKR.out.mono (T := (fun i => (Value.slice s0 j s2).ownBlock = some i ∨ i = W.heap.size + 1 + 1 ∨ i = W.heap.size + 1 + 1 + 1)) (fun i e => Or.inl e)).trans (Keep.setCell (S := (fun i => (Value.slice s0 j s2).ownBlock = some i ∨ i = W.heap.size + 1 + 1 ∨ i = W.heap.size + 1 + 1 + 1)) wr ⟨W.heap.size + 1 + 1 + 1, 0, none⟩ _ (.inr (.inr rfl))) (fun _ h => h) (fun _ _ h => h)
          obtain ⟨f1, f2, f3, f4, f5, f6⟩ := HU.out _ hk1
          have hl : (pre ++ [((x0, ⟨(x1, x2), (s0, j, s2)⟩) : Pf)]).length = x0 + 1 := by rw [List.length_append, HKK.out.1]; rfl
          refine ⟨f1, f2, ?_⟩
          show OI W x w5.heap.size most V (pre ++ [((x0, ⟨(x1, x2), (s0, j, s2)⟩) : Pf)]).length _
          rw [hl]
          exact ⟨f3, f4, f5, f6, HBB.out.2.far (by simp) _, by rw [show (((x0 + 1 : Nat)) : Int) = (x0 : Int) + 1 by omega]; exact HBB.out.1.set_ 0 (.int .i64 ((x0 : Int) + 1)), by have := HKK.out.1; omega⟩
end
end Go.Proofs.Ytellbmghahgjfaa

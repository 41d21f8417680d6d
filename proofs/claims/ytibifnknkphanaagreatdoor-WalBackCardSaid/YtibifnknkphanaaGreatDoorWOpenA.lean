/-
  opening: what makes the log one that is open.
-/
import Derived.Test.YtibifnknkphanaaGreatDoorWTakeA
import Derived.Test.YtibifnknkphanaaGreatDoorWNums
import Derived.Test.YtibifnknkphanaaGreatDoorWRange
import Derived.Test.YtibifnknkphanaaGreatDoorWAppA
import Derived.Test.YtibifnknkphanaaGreatDoorRnd
import Derived.Test.YtibifnknkphanaaGreatDoorDskSameNo
namespace Go.Proofs.YtibifnknkphanaaGreatDoor
open Go.RowKit Go.Maps Go.Sort
open DskM WalM
set_option linter.unusedVariables false
set_option linter.unusedSimpArgs false
set_option maxRecDepth 100000
attribute [local go_sem] Oper.semAt_some

theorem openAt_skip {s : ByteArray} {F : List Fp} {ns : List Nat} {k : Nat} : ∀ m, k ≤ m → (∀ i, k ≤ i → i < m → wholeP (bytesP F (segS s (ns.getD i 0)).data.toList) = []) → openAt s F ns m = openAt s F ns k
  | 0, h, _ => by
    have : k = 0 := by omega
    rw [this]
  | m + 1, h, hk => by
    by_cases he : k = m + 1
    · rw [he]
    · rw [openAt, hk m (by omega) (by omega)]
      simp only [List.isEmpty_nil, if_true]
      exact openAt_skip m (by omega) (fun i h1 h2 => hk i h1 (by omega))
theorem delete_nums {w : World} {B : Nat} {v : Value} {l : List Nat} (h : OwnI w B v l) (i : Nat) (hi : i < l.length) (hl : l.length ≤ 1000000) :
    ∃ b cap, v = .slice (some ⟨b, 0, none⟩) l.length cap ∧ Calls Tryz.prog 106 #[v, .int .i64 (i : Int), .int .i64 ((i : Int) + 1)] w fun e w' => e = .returned (.slice (some ⟨b, 0, none⟩) (l.length - 1) cap) ∧ IntsAt w' (.slice (some ⟨b, 0, none⟩) (l.length - 1) cap) (l.eraseIdx i) ∧ Keep (fun k => v.ownBlock = some k) w w' := by
  rcases h.2 with ⟨rfl, h0⟩ | ⟨g, cap, cur, rfl, hg, hh, h1, h2, h3, h4⟩
  · omega
  · refine ⟨g, cap, rfl, ?_⟩
    have hm : l.map iv = (l.map fun n : Nat => (n : Int)).map (Value.int .i64) := by rw [List.map_map]; rfl
    have hH := holds_of_blockI (ss := l.map fun n : Nat => (n : Int)) hh (by rw [List.length_map, ← hm, ← h4, Nat.mul_one])
    have hc := Tryz.slices_Delete_int g 0 cap i (i + 1) (l.map fun n : Nat => (n : Int)) w hH (by rw [List.length_map]; exact h1) (by unfold maxLen at h2; omega) (by omega) (by rw [List.length_map]; omega)
    rw [List.length_map] at hc
    rw [show ((i : Int) + 1) = ((i + 1 : Nat) : Int) by omega]
    refine hc.mono ?_
    rintro e w' ⟨rfl, q, rfl⟩
    have e1 : l.length - (i + 1 - i) = l.length - 1 := by omega
    rw [e1]
    refine ⟨rfl, ?_, ?_⟩
    · have hel : (l.eraseIdx i).length = l.length - 1 := List.length_eraseIdx_of_lt hi
      refine ⟨_, cap, by rw [hel], fun hp => ⟨g, 0, rfl, fun j hj => ?_⟩⟩
      have hsz : ((l.map fun n : Nat => (n : Int)).take i ++ (l.map fun n : Nat => (n : Int)).drop (i + 1) ++ List.replicate (i + 1 - i) (0 : Int)).toArray.size = (l.map fun n : Nat => (n : Int)).toArray.size := by
        simp; omega
      have hp2 := holds_putRow (Value.int .i64) (Sort.ahead w q) g 0 _ _ (holds_ahead _ w q g 0 _ hH) hsz j (by rw [hsz]; simp; omega)
      rw [hp2.1]
      congr 2
      have hj2 : j < l.length - 1 := by omega
      have e3 : (l.eraseIdx i)[j]? = (l.take i ++ l.drop (i + 1))[j]? := by rw [List.eraseIdx_eq_take_drop_succ]
      have e4 : ((l.map fun n : Nat => (n : Int)).take i ++ (l.map fun n : Nat => (n : Int)).drop (i + 1) ++ List.replicate (i + 1 - i) (0 : Int)).toArray[j]! = ((l.take i ++ l.drop (i + 1)).map fun n : Nat => (n : Int))[j]'(by simp; omega) := by
        rw [getElem!_pos _ _ (by rw [hsz]; simp; omega)]
        simp only [List.getElem_toArray]
        rw [List.getElem_append_left (by simp; omega)]
        simp only [List.map_append, List.map_take, List.map_drop]
      rw [e4, List.getElem_map]
      congr 1
      have e5 : (l.eraseIdx i)[j]? = some (l.eraseIdx i)[j] := List.getElem?_eq_getElem hj
      rw [e3, List.getElem?_eq_getElem (by simp; omega)] at e5
      injection e5
    · have hk := grownBy_sortedI (w := w) (g := g) (n := q) (os := #[]) (((l.map fun n : Nat => (n : Int)).take i ++ (l.map fun n : Nat => (n : Int)).drop (i + 1) ++ List.replicate (i + 1 - i) (0 : Int)).toArray)
      rw [Go.Sort.grow_empty] at hk
      exact Keep.of_grown hk (fun k e => e)
/-- What an opening has found: segment n, whose bytes are b, is taken up, and ms are removed. -/
def OpnAt (B : Nat) (W : World) (g n : Nat) (s : ByteArray) (b : List UInt8) (vs : Value) (ms : List Nat) : Prop :=
  ∃ xs vr cl cn cf cr cz c0 cs B1 B2, xs.map (·.2) = wholeP b ∧ xs ≠ [] ∧ B ≤ B1 ∧ B1 ≤ B2 ∧ (∀ k c, Blk W k 22 c → vr.ownBlock = some k → k < B2) ∧ TakeAt B1 W g n s xs vr cl cn cf cr cz ∧ RemAt B2 W g c0 cs ms ∧ Stps B W vs (takeFns (decide (endR xs < b.length)) cl cn cf cr cz ++ cs.map (remFn c0))
theorem OpnAt.kept {B : Nat} {W W' : World} {g n : Nat} {s : ByteArray} {b : List UInt8} {vs : Value} {ms : List Nat} (h : OpnAt B W g n s b vs ms) (hk : ∀ k t c, Blk W k t c → Blk W' k t c) : OpnAt B W' g n s b vs ms := by
  obtain ⟨xs, vr, cl, cn, cf, cr, cz, c0, cs, B1, B2, h1, h2, h3, h4, h5, h6, h7, h8⟩ := h
  refine ⟨xs, vr, cl, cn, cf, cr, cz, c0, cs, B1, B2, h1, h2, h3, h4, fun k c hb e => ?_, h6.kept (fun k t c _ _ => hk k t c), h7.kept (fun k t c _ _ => hk k t c), ?_⟩
  · rcases h6.own.2 with ⟨e2, _⟩ | ⟨g, cap, cur, e2, hg, hh, _⟩
    · rw [e2] at e; cases e
    · rw [e2] at e
      have e' := e
      injection e' with e'
      subst e'
      exact h5 _ cur hh (by rw [e2]; rfl)
  · unfold Stps at h8 ⊢
    refine ⟨h8.1, ?_⟩
    rcases h8.2 with h | ⟨g, cap, cur, e1, e2, hh, r⟩
    · exact .inl h
    · exact .inr ⟨g, cap, cur, e1, e2, hk g _ cur hh, r⟩
/-- An opening finds none: all that was there is removed, and the first segment begun. -/
def NewAt (B : Nat) (W : World) (g : Nat) (s : ByteArray) (vs : Value) (ms : List Nat) : Prop :=
  ∃ br o c c0 cs c1 ct cl cn cr cf, RemAt B W g c0 cs ms ∧ RemAt B W g c1 ct [1] ∧ BegAt B W g 1 s (.slice (some ⟨br, o, none⟩) (recP []).length c) cl cn cr cf ∧ SlT (fun k => B ≤ k) W (.slice (some ⟨br, o, none⟩) (recP []).length c) (recP []) ∧ (recP []).length ≤ c ∧ Stps B W vs (cs.map (remFn c0) ++ (ct.map (remFn c1) ++ begFns cl cn cr cf))

def OpI (w0 : World) (hi q3 B g : Nat) (s : ByteArray) (F : List Fp) (ns : List Nat) (v : Value) (pre : List (IdxOf ns)) (W : World) : Prop :=
  Below w0.heap.size w0 W ∧ hi ≤ W.heap.size ∧ Blk W w0.heap.size 40 #[.pointer (some ⟨g, 0, none⟩)] ∧ Blk W (w0.heap.size + 1) 101 #[.slice none 0 0] ∧ Blk W q3 35 #[v] ∧ OwnI W B v ns ∧ ∀ y ∈ pre, wholeP (bytesP F (segS s y.1.2).data.toList) = []
def OpX (w0 : World) (g : Nat) (s : ByteArray) (F : List Fp) (ns : List Nat) (c : Code) (pre : List (IdxOf ns)) (W : World) : Prop :=
  c = .ret ∧ Below w0.heap.size w0 W ∧ ∃ x pre', pre = pre' ++ [x] ∧ (∀ y ∈ pre', wholeP (bytesP F (segS s y.1.2).data.toList) = []) ∧ wholeP (bytesP F (segS s x.1.2).data.toList) ≠ [] ∧ ∃ vs, Blk W (w0.heap.size + 1) 101 #[vs] ∧ OpnAt w0.heap.size W g x.1.2 s (bytesP F (segS s x.1.2).data.toList) vs (ns.eraseIdx x.1.1)
theorem blk_put {W : World} {l : Nat} {o o' : Obj} (ho : W.heap[l]? = some o) (hc : o.isCells = false) : ∀ k t cs, Blk W k t cs → Blk (W.putObj l o') k t cs := fun k t cs hk => by
  have hne : k ≠ l := by
    rintro rfl
    unfold Blk at hk
    rw [hk] at ho
    injection ho with ho
    rw [← ho] at hc
    cases hc
  unfold Blk at hk ⊢
  show (W.heap.setIfInBounds l o')[k]? = _
  rw [Array.getElem?_setIfInBounds_ne (Ne.symm hne)]
  exact hk
theorem OwnI.keepK {W W' : World} {B : Nat} {v : Value} {l : List Nat} (h : OwnI W B v l) (hk : ∀ k t cs, Blk W k t cs → Blk W' k t cs) : OwnI W' B v l := row_kept h (fun k cs => hk k _ cs)
theorem OpI.abs {w0 : World} {hi q3 B g BB : Nat} {s : ByteArray} {F : List Fp} {ns : List Nat} {v : Value} (hB : w0.heap.size ≤ BB) : Abs BB (fun A B => A = B) (OpI w0 hi q3 B g s F ns v) := by
  refine ⟨?_, ?_, ?_⟩
  · rintro pre W l o o' ⟨hb, hs, b1, b2, b3, ho, hp⟩ hl hlo hc _
    have hk := blk_put (o' := o') hlo hc
    exact ⟨hb.grown (grownBy_putObj' W l o') hb.size (fun k e => by injection e with e; omega), Nat.le_trans hs (grownBy_putObj' W l o').size, hk _ _ _ b1, hk _ _ _ b2, hk _ _ _ b3, ho.keepK hk, hp⟩
  · rintro pre W o ⟨hb, hs, b1, b2, b3, ho, hp⟩
    exact ⟨hb.alloc hb.size _, Nat.le_trans hs (by simp), b1.alloc _, b2.alloc _, b3.alloc _, ho.keepK (fun k t cs hk => hk.alloc _), hp⟩
  · rintro pre A B' h rfl
    exact h
theorem OpX.abs {w0 : World} {g BB : Nat} {s : ByteArray} {F : List Fp} {ns : List Nat} (hB : w0.heap.size ≤ BB) (c : Code) : Abs BB (fun A B => A = B) (OpX w0 g s F ns c) := by
  refine ⟨?_, ?_, ?_⟩
  · rintro pre W l o o' ⟨hc0, hb, x, pre', h1, h2, h3, vs, h4, h5⟩ hl hlo hc _
    have hk := blk_put (o' := o') hlo hc
    exact ⟨hc0, hb.grown (grownBy_putObj' W l o') hb.size (fun k e => by injection e with e; omega), x, pre', h1, h2, h3, vs, hk _ _ _ h4, h5.kept hk⟩
  · rintro pre W o ⟨hc0, hb, x, pre', h1, h2, h3, vs, h4, h5⟩
    exact ⟨hc0, hb.alloc hb.size _, x, pre', h1, h2, h3, vs, h4.alloc _, h5.kept (fun k t cs hk => hk.alloc _)⟩
  · rintro pre A B' h rfl
    exact h
/-- What opening answers. -/
def OpnP (w : World) (g : Nat) (s : ByteArray) (F : List Fp) (ns : List Nat) (vs : Value) (w' : World) : Prop :=
  Below w.heap.size w w' ∧ ((∃ i, i < ns.length ∧ (∀ j, i < j → j < ns.length → wholeP (bytesP F (segS s (ns.getD j 0)).data.toList) = []) ∧ wholeP (bytesP F (segS s (ns.getD i 0)).data.toList) ≠ [] ∧ OpnAt w.heap.size w' g (ns.getD i 0) s (bytesP F (segS s (ns.getD i 0)).data.toList) vs (ns.eraseIdx i)) ∨
    ((∀ j, j < ns.length → wholeP (bytesP F (segS s (ns.getD j 0)).data.toList) = []) ∧ NewAt w.heap.size w' g s vs ns))
theorem openFn_enters : ∀ args w, (callFunc 133 args).run Tryz.prog w = .ok (.enter 133 args) w := enters_of Tryz.func133 (by kernel_rfl) rfl
set_option maxHeartbeats 8000000 in
theorem opening_any {D T : Nat → Prop} {w : World} {g p : Nat} {s : ByteArray} {most : Int} {S : Ds} {F : List Fp} {L : Lg} (h : LW D T w g p s most S F L) (hsz : s.size ≤ 1000000) (hlb : ∀ n, (bytesP F (segS s n).data.toList).length ≤ 1000000) (hF : F.length ≤ 64) :
    Calls Tryz.prog 56 #[.pointer (some ⟨g, 0, none⟩)] w fun e w' => ∃ vs, e = .returned vs ∧ OpnP w g s F (numsP s.data.toList F) vs w' := by
  have hfo : Tryz.prog.follows .mixedOrders = true := by kernel_rfl
  obtain ⟨ns, hns⟩ : ∃ ns, ns = numsP s.data.toList F := ⟨_, rfl⟩
  have hnl : ns.length ≤ 64 := by rw [hns]; exact Nat.le_trans (numsP_len _ _) hF
  have hnle : ∀ n ∈ ns, n ≤ 2147483647 := fun n hn => (numsP_le (by rw [← hns]; exact hn)).2
  obtain ⟨w1, hw1⟩ : ∃ w1, w1 = (w.alloc (.cells #[.pointer (some ⟨g, 0, none⟩)] 40)).alloc (.cells #[.slice none 0 0] 101) := ⟨_, rfl⟩
  have hb1 : Below w.heap.size w w1 := by rw [hw1]; exact ((Below.refl _ w).alloc (Nat.le_refl _) _).alloc (by simp) _
  have hz1 : w1.heap.size = w.heap.size + 2 := by rw [hw1]; simp
  have k1 : Blk w1 w.heap.size 40 #[.pointer (some ⟨g, 0, none⟩)] := by rw [hw1]; exact (Blk.new w _ _).alloc _
  have k2 : Blk w1 (w.heap.size + 1) 101 #[.slice none 0 0] := by
    have := Blk.new (w.alloc (.cells #[.pointer (some ⟨g, 0, none⟩)] 40)) 101 #[.slice none 0 0]
    rw [World.size_alloc] at this
    rw [hw1]; exact this
  have hnum := numbers_any (h.below hb1) hsz
  rw [← hns] at hnum ⊢
  have c1 : ((w.alloc (.cells #[.pointer (some ⟨g, 0, none⟩)] 40)).alloc (.cells #[.slice none 0 0] 101)).cell? ⟨w.heap.size, 0, none⟩ = some (.pointer (some ⟨g, 0, none⟩)) := by rw [← hw1, k1.cell]; rfl
  have H := Lib.hid h
  have HNUM := Lib.hid hnum
  have HW1 := Lib.hid hw1
  have HK := Lib.hid (And.intro hb1 (And.intro k1 (And.intro k2 hz1)))
  have HLB := Lib.hid hlb
  have HNS := Lib.hid hns
  have HNL := Lib.hid (And.intro hnl hnle)
  clear h hnum hw1 hb1 k1 k2 hz1 hlb hns hnl hnle hF
  refine (callsIn_wide (n := 8)).1 ?_
  refine callsIn_of_wp_marks Tryz.func56 rfl trivial ?_ rfl
  simp only [Tryz.ntmps56, List.size_toArray, List.length_cons, List.length_nil, Nat.reduceAdd, Nat.reduceSub, Array.replicate_succ, Array.replicate_zero, List.push_toArray, List.append_toArray, List.nil_append, List.cons_append]
  gi_wp2_with fail
  rw [← HW1.out]
  refine ⟨trivial, (callsIn_wide.2 HNUM.out).mono ?_⟩
  rintro e w2 ⟨v, rfl, hov, hb2⟩
  obtain ⟨Av, cv, hvv⟩ := hov.shape
  obtain ⟨w3, hw3⟩ : ∃ w3, w3 = w2.alloc (.cells #[v] 35) := ⟨_, rfl⟩
  have hb3 : Below w2.heap.size w2 w3 := by rw [hw3]; exact al_one w2 _
  have k3 : Blk w3 w2.heap.size 35 #[v] := by rw [hw3]; exact Blk.new w2 _ _
  have hov3 : OwnI w3 w1.heap.size v ns := hov.keep (fun k hk => hb3.block k (hov.lt k hk).2)
  have hb13 : Below w1.heap.size w1 w3 := hb2.trans (hb3.mono hb2.size)
  have HW3 := Lib.hid (show w3 = w2.alloc (.cells #[.slice Av ns.length cv] 35) by rw [hw3, hvv])
  have HX := Lib.hid (And.intro hov3 (And.intro k3 (And.intro hb13 (show w1.heap.size ≤ w2.heap.size from hb2.size))))
  have HVV := Lib.hid hvv
  subst hvv
  clear hov hb2 hw3 hb3 k3 hov3 hb13 HNUM c1
  gi_wp2_with fail
  try rw [← HW3.out]
  refine ⟨trivial, (callsIn_wide.2 (backward_any Av ns.length cv w3)).mono ?_⟩
  rintro e w4 ⟨rfl, hbx, hb4⟩
  obtain ⟨hov3, k3, hb13, hz12⟩ := HX.out
  have hov4 : OwnI w4 w1.heap.size (.slice Av ns.length cv) ns := hov3.keep (fun k hk => hb4.block k (hov3.lt k hk).2)
  have HSEQ := Lib.hid (back_seq 7 (by omega) w1.heap.size w3.heap.size (.slice Av ns.length cv) ns (by have := HNL.out.1; omega) w4 hbx hov4)
  have hb04 : Below w.heap.size w w4 := HK.out.1.trans ((hb13.trans (hb4.mono hb13.size)).mono HK.out.1.size)
  have hI0 : OpI w w4.heap.size w2.heap.size w1.heap.size g s F ns (.slice Av ns.length cv) [] w4 :=
    ⟨hb04, Nat.le_refl _, (HK.out.2.1.below hb13 HK.out.2.1.lt).below hb4 (Nat.lt_of_lt_of_le HK.out.2.1.lt hb13.size), (HK.out.2.2.1.below hb13 HK.out.2.2.1.lt).below hb4 (Nat.lt_of_lt_of_le HK.out.2.2.1.lt hb13.size), k3.below hb4 k3.lt, hov4, fun y hy => by cases hy⟩
  have HI0 := Lib.hid hI0
  have HZ := Lib.hid (show w.heap.size + 1 < w1.heap.size ∧ w1.heap.size ≤ w2.heap.size ∧ w2.heap.size < w3.heap.size ∧ w3.heap.size < w4.heap.size ∧ w.heap.size ≤ w4.heap.size ∧ (∀ k, (Value.slice Av ns.length cv).ownBlock = some k → w1.heap.size ≤ k ∧ k < w4.heap.size) from ⟨by rw [HK.out.2.2.2]; omega, hz12, k3.lt, hbx.lt, hb04.size, fun k hk => hov4.lt k hk⟩)
  have HB04 := Lib.hid hb04
  clear hov3 k3 hb13 hz12 hov4 hbx hb4 hI0 hb04
  gi_wp2_with fail
  refine' range_x rfl (by omega) (gf := 133) (lb := #[.pointer (some ⟨w3.heap.size, 0, none⟩)]) rfl trivial openFn_enters HSEQ.out (fun A B (e : A = B) => by subst e; exact ⟨Nat.le_refl _, fun k o h _ _ => h⟩) (fun {A B C} h k => KpB.trans h k) ?hKb (Below.refl _ _) (fun _ => rfl) (fun _ _ _ _ _ _ _ _ => trivial)
    (OpI w w4.heap.size w2.heap.size w1.heap.size g s F ns (.slice Av ns.length cv)) (OpX w g s F ns) (OpI.abs HZ.out.2.2.2.2.1) (OpX.abs HZ.out.2.2.2.2.1) HI0.out _ ?assign ?body ?done ?stop
  case hKb =>
    intro W l o o' hl ho hc _
    have hz := HZ.out
    refine ⟨(grownBy_putObj' W l o').size, ?_, fun k hk => ?_⟩
    · show (W.heap.setIfInBounds l o')[w3.heap.size]? = _
      rw [Array.getElem?_setIfInBounds_ne (by omega)]
    · show (W.heap.setIfInBounds l o')[k]? = _
      rw [Array.getElem?_setIfInBounds_ne (by have := hz.2.2.2.2.2 k hk; omega)]
  case assign =>
    intro l x W K hK
    dsimp only [encB]
    gi_wp2
    exact hK
  case body =>
    intro l pre x W hI _ hlen
    obtain ⟨hb, hs, b1, b2, b3, ho, hpre⟩ := hI
    have hxn : x.1.2 ≤ 2147483647 := by
      rw [x.2.2]
      have hi := x.2.1
      rw [List.getD_eq_getElem?_getD, List.getElem?_eq_getElem hi]
      exact HNL.out.2 _ (List.getElem_mem hi)
    have hxi : x.1.1 < ns.length := x.2.1
    have HT := Lib.hid (takingUp_any (H.out.below hb) x.1.2 hxn hsz (HLB.out x.1.2))
    have q1 : W.cell? ⟨w.heap.size, 0, none⟩ = some (.pointer (some ⟨g, 0, none⟩)) := by rw [b1.cell]; rfl
    have HI := Lib.hid (And.intro hb (And.intro hs (And.intro b1 (And.intro b2 (And.intro b3 (And.intro ho hpre))))))
    have HXI := Lib.hid hxi
    clear hb hs b1 b2 b3 ho hpre hxn hlen hxi
    obtain ⟨i, hi⟩ : ∃ i, i = x.1.1 := ⟨_, rfl⟩
    obtain ⟨n, hn⟩ : ∃ n, n = x.1.2 := ⟨_, rfl⟩
    rw [← hi, ← hn]
    rw [← hn] at HT
    rw [← hi] at HXI
    have HI1 := Lib.hid hi
    have HN1 := Lib.hid hn
    clear hi hn
    gi_wp2_with fail
    refine ⟨trivial, (callsIn_wide.2 HT.out).mono ?_⟩
    rintro e W2 ⟨xs, hxs, hb2, hcase⟩
    rcases hcase with ⟨hx0, rfl⟩ | ⟨hx0, vs, vr, cl, cn, cf, cr, cz, rfl, hst, hta⟩
    · obtain ⟨hb, hs, b1, b2, b3, ho, hpre⟩ := HI.out
      have hfin : KeepsFrom w4.heap.size W W2 ∧ KpB w3.heap.size (.slice Av ns.length cv) W W2 ∧ OpI w w4.heap.size w2.heap.size w1.heap.size g s F ns (.slice Av ns.length cv) (pre ++ [x]) W2 := by
        refine ⟨⟨hb2.size, fun i o hi' ho' hc => (hb2.block i (Array.getElem?_eq_some_iff.1 ho').1).trans ho'⟩, ⟨hb2.size, hb2.block _ (by have := HZ.out; omega), fun k hk => hb2.block k (ho.lt k hk).2⟩, hb.trans (hb2.mono hb.size), Nat.le_trans hs hb2.size, b1.below hb2 b1.lt, b2.below hb2 b2.lt, b3.below hb2 b3.lt, ho.keep (fun k hk => hb2.block k (ho.lt k hk).2), fun y hy => ?_⟩
        rcases List.mem_append.1 hy with hy | hy
        · exact hpre y hy
        · obtain rfl := List.mem_singleton.1 hy
          rw [← HN1.out, ← hxs, hx0]; rfl
      have HFIN := Lib.hid hfin
      clear hfin hb hs b1 b2 b3 ho hpre hxs hx0 hb2 HT
      gi_wp2
      exact HFIN.out
    · obtain ⟨hb, hs, b1, b2, b3, ho, hpre⟩ := HI.out
      have c1 : W2.cell? ⟨w.heap.size, 0, none⟩ = some (.pointer (some ⟨g, 0, none⟩)) := by rw [(b1.below hb2 b1.lt).cell]; rfl
      have c3 : W2.cell? ⟨w2.heap.size, 0, none⟩ = some (.slice Av ns.length cv) := by rw [(b3.below hb2 b3.lt).cell]; rfl
      have hz := HZ.out
      have HC := Lib.hid (fun X (k : Keep (fun k => (Value.slice Av ns.length cv).ownBlock = some k ∨ k = w.heap.size + 1 ∨ W.heap.size ≤ k) W2 X) => And.intro (k.cell c1 (fun e => by
          have e : (Value.slice Av ns.length cv).ownBlock = some w.heap.size ∨ w.heap.size = w.heap.size + 1 ∨ W.heap.size ≤ w.heap.size := e
          rcases e with e | e | e
          · have := hz.2.2.2.2.2 _ e; omega
          · omega
          · omega)) (k.cell c3 (fun e => by
          have e : (Value.slice Av ns.length cv).ownBlock = some w2.heap.size ∨ w2.heap.size = w.heap.size + 1 ∨ W.heap.size ≤ w2.heap.size := e
          rcases e with e | e | e
          · obtain ⟨cs, hcs⟩ := ho.isRow e
            have e := b3.symm.trans hcs
            injection e with e
            injection e with _ e
            revert e; decide
          · omega
          · omega)))
      have HS := Lib.hid (And.intro hst (And.intro hta (And.intro hb2 (And.intro hxs hx0))))
      have hwi : IntKind.i64.wrap ((i : Int) + 1) = (i : Int) + 1 := by rw [IntKind.wrap_i64] <;> (have := HXI.out; have := HNL.out.1; omega)
      clear hb hs b1 b2 b3 ho hpre hxs hx0 hb2 HT hst hta c1 c3 hz
      gi_wp2_with fail
      have HB := Lib.hid (show ∀ X, Keep (fun k => (Value.slice Av ns.length cv).ownBlock = some k ∨ k = w.heap.size + 1 ∨ W.heap.size ≤ k) W2.drew X → Keep (fun k => (Value.slice Av ns.length cv).ownBlock = some k ∨ k = w.heap.size + 1 ∨ W.heap.size ≤ k) W2 X from fun X hX => (Keep.of_below ((Below.refl _ _).drew)).trans hX (fun _ h => h) (fun _ _ h => h))
      refine wpIn_region_held_round (S := fun X => Keep (fun k => (Value.slice Av ns.length cv).ownBlock = some k ∨ k = w.heap.size + 1 ∨ W.heap.size ≤ k) W2.drew X) hfo (by kernel_rfl) (fun _ _ h => h) (Keep.refl _ _) (fun hS0 => ?_)
      have HZ0 := Lib.hid (show Below W2.heap.size W2 W2.drew from (Below.refl _ _).drew)
      generalize W2.drew = Z0 at hS0 HB HZ0 ⊢
      refine' wpAnyH_take (i := 0) (oi := ⟨some 23, _, _, _, _, _⟩) (v := _) rfl (by kernel_rfl) (by kernel_rfl) (by kernel_rfl) (fun _ _ _ h => h) (Or.inl ⟨by rfl, ?y0⟩) hS0 ?r0
      case y0 => (intro w' hSw; obtain ⟨s1, s3⟩ := HC.out w' (HB.out w' hSw); go_simp; try rfl)
      try simp only [Act.put, List.setIfInBounds_toArray, List.set_cons_zero, List.set_cons_succ]
      refine' wpAnyH_take (i := 1) (oi := ⟨some 24, _, _, _, _, _⟩) (v := _) rfl (by kernel_rfl) (by kernel_rfl) (by kernel_rfl) (fun _ _ _ h => h) (Or.inl ⟨by rfl, ?y1⟩) hS0 ?r1
      case y1 => (intro w' hSw; obtain ⟨s1, s3⟩ := HC.out w' (HB.out w' hSw); go_simp; try rfl)
      try simp only [Act.put, List.setIfInBounds_toArray, List.set_cons_zero, List.set_cons_succ]
      refine' wpAnyH_take (i := 2) (oi := ⟨some 25, _, _, _, _, _⟩) (v := _) rfl (by kernel_rfl) (by kernel_rfl) (by kernel_rfl) (fun _ _ _ h => h) (Or.inl ⟨by rfl, ?y2⟩) hS0 ?r2
      case y2 => (intro w' hSw; obtain ⟨s1, s3⟩ := HC.out w' (HB.out w' hSw); go_simp; try rfl)
      try simp only [Act.put, List.setIfInBounds_toArray, List.set_cons_zero, List.set_cons_succ]
      refine' wpAnyH_take (i := 3) (oi := ⟨some 26, _, _, _, _, _⟩) (v := _) rfl (by kernel_rfl) (by kernel_rfl) (by kernel_rfl) (fun _ _ _ h => h) (Or.inl ⟨by rfl, ?y3⟩) hS0 ?r3
      case y3 => (intro w' hSw; obtain ⟨s1, s3⟩ := HC.out w' (HB.out w' hSw); go_simp; try rfl)
      try simp only [Act.put, List.setIfInBounds_toArray, List.set_cons_zero, List.set_cons_succ]
      refine' wpAnyH_take (i := 4) (oi := ⟨some 27, _, _, _, _, _⟩) (v := _) rfl (by kernel_rfl) (by kernel_rfl) (by kernel_rfl) (fun _ _ _ h => h) (Or.inl ⟨by rfl, ?y4⟩) hS0 ?r4
      case y4 => (intro w' hSw; obtain ⟨s1, s3⟩ := HC.out w' (HB.out w' hSw); go_simp; try rfl)
      try simp only [Act.put, List.setIfInBounds_toArray, List.set_cons_zero, List.set_cons_succ]
      refine' wpAnyH_take (i := 5) (oi := ⟨some 28, _, _, _, _, _⟩) (v := _) rfl (by kernel_rfl) (by kernel_rfl) (by kernel_rfl) (fun _ _ _ h => h) (Or.inl ⟨by rfl, ?y5⟩) hS0 ?r5
      case y5 => (intro w' hSw; obtain ⟨s1, s3⟩ := HC.out w' (HB.out w' hSw); go_simp; try rfl)
      try simp only [Act.put, List.setIfInBounds_toArray, List.set_cons_zero, List.set_cons_succ]
      refine held_one (i := 6) (by kernel_rfl) rfl (fun K hK => ?_)
      go_simp
      obtain ⟨hb, hs, b1, b2, b3, ho, hpre⟩ := HI.out
      obtain ⟨hst, hta, hb2, hxs, hx0⟩ := HS.out
      have hb20 : Below W.heap.size W Z0 := hb2.trans (HZ0.out.mono hb2.size)
      have ho0 : OwnI Z0 w1.heap.size (.slice Av ns.length cv) ns := ho.keep (fun k hk => hb20.block k (ho.lt k hk).2)
      obtain ⟨bb, cap, hvb, hdel⟩ := delete_nums ho0 i HXI.out (by have := HNL.out.1; omega)
      refine hdel.mono ?_
      rintro e Z1 ⟨rfl, hints, hkd⟩
      have hS1 : Keep (fun k => (Value.slice Av ns.length cv).ownBlock = some k ∨ k = w.heap.size + 1 ∨ W.heap.size ≤ k) Z0 Z1 := hS0.trans hkd (fun _ h => h) (fun _ _ h => .inl h)
      have HDEL := Lib.hid (And.intro hints (And.intro hkd (And.intro ho0 hb20)))
      clear hdel hints hkd ho0 hb20 hb hs b1 b2 b3 ho hpre hst hta hb2 hxs hx0
      refine hK.out _ _ hS1 (fun _ => ?_)
      clear hK K
      try simp only [Act.put, List.setIfInBounds_toArray, List.set_cons_zero, List.set_cons_succ]
      refine held_one (i := 7) (by kernel_rfl) rfl (fun K hK => ?_)
      go_simp
      have hel : (ns.eraseIdx i).length = ns.length - 1 := List.length_eraseIdx_of_lt HXI.out
      refine (removal_any g _ (ns.eraseIdx i) Z1 HDEL.out.1 (by rw [hel]; have := HNL.out.1; omega)).mono ?_
      rintro e Z2 ⟨vr2, c0, cs, rfl, hst2, hrem2, hb22⟩
      have hS2 : Keep (fun k => (Value.slice Av ns.length cv).ownBlock = some k ∨ k = w.heap.size + 1 ∨ W.heap.size ≤ k) Z0 Z2 := hS1.trans (Keep.of_below (S := fun _ => False) hb22) (fun _ h => h) (fun _ _ h => h.elim)
      have HREM := Lib.hid (And.intro hst2 (And.intro hrem2 (And.intro hb22 hel)))
      clear hst2 hrem2 hb22 hel
      refine hK.out _ _ hS2 (fun _ => ?_)
      clear hK K
      try simp only [Act.put, List.setIfInBounds_toArray, List.set_cons_zero, List.set_cons_succ]
      refine held_one (i := 8) (by kernel_rfl) rfl (fun K hK => ?_)
      obtain ⟨hb, hs, b1, b2, b3, ho, hpre⟩ := HI.out
      obtain ⟨hst, hta, hb2, hxs, hx0⟩ := HS.out
      obtain ⟨hints, hkd, ho0, hb20⟩ := HDEL.out
      obtain ⟨hst2, hrem2, hb22, hel⟩ := HREM.out
      have hst0 : Stps W.heap.size Z0 vs _ := hst.below HZ0.out (Nat.le_refl _)
      have hst1 : Stps W.heap.size Z1 vs _ := row_kept hst0 (fun k cs hk => hk.kept hkd (fun e => by
        obtain ⟨cs', hcs'⟩ := ho0.isRow e
        have e := hk.symm.trans hcs'
        injection e with e
        injection e with _ e
        revert e; decide))
      have hst2' := hst1.below hb22 (Nat.le_refl _)
      have hZs : W.heap.size ≤ Z2.heap.size := Nat.le_trans hb20.size (Nat.le_trans hkd.size hb22.size)
      obtain ⟨v3, Z3, hrun3, hst3, hg3⟩ := run_append_steps hst2' hst2 (by
        rw [List.length_map, hrem2.2.2.1, hel]
        have := HNL.out.1
        have h4 : (takeFns (decide (endR xs < (bytesP F (segS s n).data.toList).length)) cl cn cf cr cz).length ≤ 3 := by unfold takeFns; split <;> simp
        omega) hZs 101
      obtain ⟨As, csz, hvs⟩ := hst.shape
      have hS3 : Keep (fun k => (Value.slice Av ns.length cv).ownBlock = some k ∨ k = w.heap.size + 1 ∨ W.heap.size ≤ k) Z0 Z3 := hS2.trans (Keep.of_grown (S := fun k => W.heap.size ≤ k) hg3 (fun k e => (by rw [hvs] at e hst; exact (hst.row k e).1))) (fun _ h => h) (fun _ _ h => .inr (.inr h))
      obtain ⟨A3, c3, hv3⟩ := hst3.shape
      obtain ⟨nx, hnx⟩ : ∃ nx, nx = (takeFns (decide (endR xs < (bytesP F (segS s n).data.toList).length)) cl cn cf cr cz ++ cs.map (remFn c0)).length := ⟨_, rfl⟩
      rw [← hnx] at hv3
      clear hnx
      have HAPP := Lib.hid (And.intro hst3 (And.intro hg3 hst2'))
      subst hv3
      clear hb hs b1 b2 b3 ho hpre hst hta hb2 hxs hx0 hints hkd ho0 hb20 hst2 hrem2 hb22 hel hst0 hst1 hst2' hZs hst3 hg3 hvs
      refine held_wanted rfl ?_
      refine oper_append (.tmp 23) (.tmp 30) 101 rfl rfl rfl hrun3 ?_
      refine hK.out _ _ hS3 (fun _ => ?_)
      clear hK K
      try simp only [Act.put, List.setIfInBounds_toArray, List.set_cons_zero, List.set_cons_succ]
      refine held_one (i := 9) (by kernel_rfl) rfl (fun K hK => ?_)
      have hbx2 : Blk Z3 (w.heap.size + 1) 101 #[.slice none 0 0] := by
        obtain ⟨hb, hs, b1, b2, b3, ho, hpre⟩ := HI.out
        obtain ⟨hst, hta, hb2, hxs, hx0⟩ := HS.out
        obtain ⟨hints, hkd, ho0, hb20⟩ := HDEL.out
        obtain ⟨hst2, hrem2, hb22, hel⟩ := HREM.out
        obtain ⟨hst3, hg3, hst2'⟩ := HAPP.out
        obtain ⟨As, csz, hvs⟩ := hst.shape
        have q2 : Blk Z1 (w.heap.size + 1) 101 #[.slice none 0 0] := (b2.below hb20 b2.lt).kept hkd (fun e => by have := HZ.out.2.2.2.2.2 _ e; have := HZ.out.1; omega)
        have q3 := q2.below hb22 q2.lt
        rw [hvs] at hg3 hst2'
        exact grown_blk hst2' hg3 q3 (by decide)
      have f2 := hbx2.frozen 0
      have r2 : Z3.cell? ⟨w.heap.size + 1, 0, none⟩ = some (.slice none 0 0) := by rw [hbx2.cell]; rfl
      go_simp
      have hS4 : Keep (fun k => (Value.slice Av ns.length cv).ownBlock = some k ∨ k = w.heap.size + 1 ∨ W.heap.size ≤ k) Z0 (Z3.setCell ⟨w.heap.size + 1, 0, none⟩ (.slice A3 nx c3)) := hS3.trans (Keep.setCell (S := fun k => k = w.heap.size + 1) Z3 _ _ rfl) (fun _ h => h) (fun _ _ h => .inr (.inl h))
      refine hK.out _ _ hS4 (fun _ => ?_)
      clear hK K
      try simp only [Act.put, List.setIfInBounds_toArray, List.set_cons_zero, List.set_cons_succ]
      refine wpAnyH_done (by kernel_rfl) ?_ _
      have hfin : KeepsFrom w4.heap.size W (Z3.setCell ⟨w.heap.size + 1, 0, none⟩ (.slice A3 nx c3)) ∧ OpX w g s F ns .ret (pre ++ [x]) (Z3.setCell ⟨w.heap.size + 1, 0, none⟩ (.slice A3 nx c3)) := by
        obtain ⟨hb, hs, b1, b2, b3, ho, hpre⟩ := HI.out
        obtain ⟨hst, hta, hb2, hxs, hx0⟩ := HS.out
        obtain ⟨hints, hkd, ho0, hb20⟩ := HDEL.out
        obtain ⟨hst2, hrem2, hb22, hel⟩ := HREM.out
        obtain ⟨hst3, hg3, hst2'⟩ := HAPP.out
        obtain ⟨As, csz, hvs⟩ := hst.shape
        have hz := HZ.out
        have hkW : Keep (fun k => (Value.slice Av ns.length cv).ownBlock = some k ∨ k = w.heap.size + 1 ∨ W.heap.size ≤ k) W (Z3.setCell ⟨w.heap.size + 1, 0, none⟩ (.slice A3 nx c3)) := (Keep.of_below hb20).trans hS4 (fun _ h => h) (fun _ _ h => h)
        rw [hvs] at hg3 hst2'
        have h03 : ∀ k t c, W.heap.size ≤ k → t ≠ 150 → Blk Z0 k t c → Blk Z3 k t c := fun k t c hk ht hkb => by
          have h1 : Blk Z1 k t c := hkb.kept hkd (fun e => by have := (ho.lt k e).2; omega)
          exact grown_blk hst2' hg3 (h1.below hb22 h1.lt) ht
        have hfar : ∀ k t c, W.heap.size ≤ k → Blk Z3 k t c → Blk (Z3.setCell ⟨w.heap.size + 1, 0, none⟩ (.slice A3 nx c3)) k t c := fun k t c hk hkb => hkb.far (p := ⟨w.heap.size + 1, 0, none⟩) (by show k ≠ w.heap.size + 1; omega) _
        have hWZ1 : W.heap.size ≤ Z1.heap.size := Nat.le_trans hb20.size hkd.size
        have hta4 := ((hta.below HZ0.out).kept h03).kept (fun k t c hk _ => hfar k t c hk)
        have hrem3 : RemAt Z1.heap.size Z3 g c0 cs (ns.eraseIdx i) := hrem2.kept (fun k t c hk ht hkb => grown_blk hst2' hg3 hkb (by rcases ht with rfl | rfl <;> decide))
        have hrem4 := hrem3.kept (fun k t c hk ht hkb => hfar k t c (by omega) hkb)
        have hst4 : Stps w.heap.size (Z3.setCell ⟨w.heap.size + 1, 0, none⟩ (.slice A3 nx c3)) (.slice A3 nx c3) (takeFns (decide (endR xs < (bytesP F (segS s n).data.toList).length)) cl cn cf cr cz ++ cs.map (remFn c0)) := by
          refine ⟨hst3.1, ?_⟩
          rcases hst3.2 with h | ⟨g, cap, cur, e1, e2, hh, r⟩
          · exact .inl h
          · exact .inr ⟨g, cap, cur, e1, by have := hb.size; omega, hfar g _ cur e2 hh, r⟩
        have hbx2 : Blk Z3 (w.heap.size + 1) 101 #[.slice none 0 0] := by
          have q2 : Blk Z1 (w.heap.size + 1) 101 #[.slice none 0 0] := (b2.below hb20 b2.lt).kept hkd (fun e => by have := hz.2.2.2.2.2 _ e; omega)
          exact grown_blk hst2' hg3 (q2.below hb22 q2.lt) (by decide)
        refine ⟨⟨hkW.size, fun i o hi' ho' hc => ?_⟩, rfl, Keep.below hb hkW hb.size (fun i e => ?_), x, pre, rfl, hpre, ?_, _, hbx2.set_ 0 _, ?_⟩
        · by_cases hiW : i < W.heap.size
          · refine (hkW.block i hiW (fun e => ?_)).trans ho'
            rcases e with e | e | e
            · obtain ⟨cs', hcs'⟩ := ho.isRow e
              unfold Blk at hcs'
              rw [ho'] at hcs'
              injection hcs' with hcs'
              rw [hcs'] at hc
              cases hc
            · omega
            · omega
          · have := (Array.getElem?_eq_some_iff.1 ho').1
            omega
        · rcases e with e | e | e
          · have := hz.2.2.2.2.2 _ e; omega
          · omega
          · have := hb.size; omega
        · rw [← HN1.out, ← hxs]
          intro e
          exact hx0 (by simpa using e)
        · rw [← HN1.out, ← HI1.out]
          refine ⟨xs, vr, cl, cn, cf, cr, cz, c0, cs, W.heap.size, Z1.heap.size, hxs, hx0, hb.size, hWZ1, fun k c hkb e => ?_, hta4, hrem4, hst4⟩
          rcases hta.own.2 with ⟨e2, _⟩ | ⟨g, cap, cur, e2, hg, hh, _⟩
          · rw [e2] at e; cases e
          · rw [e2] at e
            injection e with e
            subst e
            have h5 : g < W2.heap.size := Blk.lt (cs := cur) hh
            exact Nat.lt_of_lt_of_le h5 (Nat.le_trans HZ0.out.size hkd.size)
      have HFIN := Lib.hid hfin
      clear hfin hS0 hS1 hS2 hS3 hS4 hbx2 f2 r2 hrun3
      gi_wp2
      exact HFIN.out
  case stop =>
    rintro D c pre W hD' ⟨k, hk, hpk⟩ ⟨rfl, hb, x, pre', hpre, h1, h2, vs, hbv, hop⟩ hKd
    have hgr := grownBy_putObj' W D (.deferred none)
    have hk' := blk_put (o' := .deferred none) hKd rfl
    have hbe := hb.grown hgr hb.size (fun k e => by injection e with e; have := HZ.out; omega)
    have hxk : x.1.1 = ns.length - k ∧ 1 ≤ k ∧ pre' = (revE ns).take (k - 1) := by
      have hl : pre'.length + 1 = k := by
        have := congrArg List.length hpk
        rw [hpre, List.length_append, List.length_take, revE_len] at this
        simp at this
        omega
      have hk1 : k - 1 < (revE ns).length := by rw [revE_len]; omega
      have ht : (revE ns).take k = (revE ns).take (k - 1) ++ [(revE ns)[k - 1]] := by
        have := List.take_succ_eq_append_getElem hk1
        rw [show k - 1 + 1 = k by omega] at this
        exact this
      rw [hpre, ht] at hpk
      have h3 := List.append_inj hpk (by rw [List.length_take, revE_len]; omega)
      have h4 := h3.2
      injection h4 with h4
      refine ⟨?_, by omega, h3.1⟩
      rw [h4, revE_at]
      omega
    have hfin : OpnP w g s F ns vs (W.putObj D (.deferred none)) := by
      refine ⟨hbe, .inl ⟨x.1.1, x.2.1, fun j hj1 hj2 => ?_, by rw [← x.2.2]; exact h2, by rw [← x.2.2]; exact hop.kept hk'⟩⟩
      have hjk : ns.length - 1 - j < (revE ns).length := by rw [revE_len]; omega
      have hm : (revE ns)[ns.length - 1 - j] ∈ pre' := by
        rw [hxk.2.2]
        refine List.mem_iff_getElem.2 ⟨ns.length - 1 - j, by rw [List.length_take, revE_len]; omega, ?_⟩
        rw [List.getElem_take]
      have h5 := h1 _ hm
      rw [(revE ns)[ns.length - 1 - j].2.2, revE_at, show ns.length - 1 - (ns.length - 1 - j) = j by omega] at h5
      exact h5
    have hc5 : (W.putObj D (.deferred none)).cell? ⟨w.heap.size + 1, 0, none⟩ = some vs := by rw [(hk' _ _ _ hbv).cell]; rfl
    have HC5 := Lib.hid hc5
    have HFIN := Lib.hid hfin
    have HKD := Lib.hid hKd
    clear hc5 hfin hgr hk' hbe hxk hop h1 h2 hpre hpk hb hbv hKd
    gi_wp2
    refine ⟨by simp, .inl ⟨_, _, rfl, run_takeDeferred HKD.out, ?_⟩⟩
    have hc5 := HC5.out
    refine ⟨vs, ?_, vs, rfl, HFIN.out⟩
    simp [results, Tryz.f56, go_sem, hc5]
  case done =>
    rintro D xs W hD' rfl hI hKd
    obtain ⟨hb, hs, b1, b2, b3, ho, hpre⟩ := hI
    have hall : ∀ j, j < ns.length → wholeP (bytesP F (segS s (ns.getD j 0)).data.toList) = [] := fun j hj => by
      have hjk : ns.length - 1 - j < (revE ns).length := by rw [revE_len]; omega
      have h5 := hpre _ (List.getElem_mem hjk)
      rw [(revE ns)[ns.length - 1 - j].2.2, revE_at, show ns.length - 1 - (ns.length - 1 - j) = j by omega] at h5
      exact h5
    have HR := Lib.hid (record_any (.slice none 0 0) [] W ⟨none, 0, rfl, Nat.le_refl _, fun h => absurd h (by simp)⟩ (by simp))
    have HI := Lib.hid (And.intro hb (And.intro hs (And.intro b1 (And.intro b2 (And.intro b3 (And.intro ho hall))))))
    have HKD := Lib.hid hKd
    clear hb hs b1 b2 b3 ho hpre hall hKd
    gi_wp2_with fail
    refine ⟨trivial, (callsIn_wide.2 HR.out).mono ?_⟩
    rintro e W2 ⟨v2, rfl, ho2, hb2⟩
    obtain ⟨br, cr, hv2, hcr, hbr⟩ := own_some ho2 (by rw [recP_length]; omega)
    subst hv2
    obtain ⟨hb, hs, b1, b2, b3, ho, hall⟩ := HI.out
    have c1 : W2.cell? ⟨w.heap.size, 0, none⟩ = some (.pointer (some ⟨g, 0, none⟩)) := by rw [(b1.below hb2 b1.lt).cell]; rfl
    have c3 : W2.cell? ⟨w2.heap.size, 0, none⟩ = some (.slice Av ns.length cv) := by rw [(b3.below hb2 b3.lt).cell]; rfl
    have hz := HZ.out
    have HC := Lib.hid (fun X (k : Keep (fun k => k = w.heap.size + 1 ∨ W.heap.size ≤ k) W2 X) => And.intro (k.cell c1 (fun e => by
        have e : w.heap.size = w.heap.size + 1 ∨ W.heap.size ≤ w.heap.size := e
        omega)) (k.cell c3 (fun e => by
        have e : w2.heap.size = w.heap.size + 1 ∨ W.heap.size ≤ w2.heap.size := e
        omega)))
    have HS := Lib.hid (And.intro ho2 (And.intro hb2 (And.intro hcr hbr)))
    clear hb hs b1 b2 b3 ho hall c1 c3 hz ho2 hb2 hcr hbr HR
    obtain ⟨rl, hrl⟩ : ∃ rl, rl = (recP []).length := ⟨_, rfl⟩
    rw [← hrl]
    have HRL := Lib.hid hrl
    clear hrl
    gi_wp2_with fail
    refine wpIn_only (wpIn_wide.2 ?_)
    have HB := Lib.hid (show ∀ X, Keep (fun k => k = w.heap.size + 1 ∨ W.heap.size ≤ k) W2.drew X → Keep (fun k => k = w.heap.size + 1 ∨ W.heap.size ≤ k) W2 X from fun X hX => (Keep.of_below ((Below.refl _ _).drew)).trans hX (fun _ h => h) (fun _ _ h => h))
    refine wp_region_held_drew (S := fun X => Keep (fun k => k = w.heap.size + 1 ∨ W.heap.size ≤ k) W2.drew X) hfo (Keep.refl _ _) (fun hS0 => ?_)
    have HZ0 := Lib.hid (show Below W2.heap.size W2 W2.drew from (Below.refl _ _).drew)
    generalize W2.drew = Z0 at hS0 HB HZ0 ⊢
    refine' wpAnyH_take (i := 0) (oi := ⟨some 36, _, _, _, _, _⟩) (v := _) rfl (by kernel_rfl) (by kernel_rfl) (by kernel_rfl) (fun _ _ _ h => h) (Or.inl ⟨by rfl, ?y0d⟩) hS0 ?r0d
    case y0d => (intro w' hSw; obtain ⟨s1, s3⟩ := HC.out w' (HB.out w' hSw); go_simp; try rfl)
    try simp only [Act.put, List.setIfInBounds_toArray, List.set_cons_zero, List.set_cons_succ]
    refine' wpAnyH_take (i := 1) (oi := ⟨some 37, _, _, _, _, _⟩) (v := _) rfl (by kernel_rfl) (by kernel_rfl) (by kernel_rfl) (fun _ _ _ h => h) (Or.inl ⟨by rfl, ?y1d⟩) hS0 ?r1d
    case y1d => (intro w' hSw; obtain ⟨s1, s3⟩ := HC.out w' (HB.out w' hSw); go_simp; try rfl)
    try simp only [Act.put, List.setIfInBounds_toArray, List.set_cons_zero, List.set_cons_succ]
    refine' wpAnyH_take (i := 3) (oi := ⟨some 39, _, _, _, _, _⟩) (v := _) rfl (by kernel_rfl) (by kernel_rfl) (by kernel_rfl) (fun _ _ _ h => h) (Or.inl ⟨by rfl, ?y3d⟩) hS0 ?r3d
    case y3d => (intro w' hSw; obtain ⟨s1, s3⟩ := HC.out w' (HB.out w' hSw); go_simp; try rfl)
    try simp only [Act.put, List.setIfInBounds_toArray, List.set_cons_zero, List.set_cons_succ]
    refine' wpAnyH_take (i := 4) (oi := ⟨some 40, _, _, _, _, _⟩) (v := _) rfl (by kernel_rfl) (by kernel_rfl) (by kernel_rfl) (fun _ _ _ h => h) (Or.inl ⟨by rfl, ?y4d⟩) hS0 ?r4d
    case y4d => (intro w' hSw; obtain ⟨s1, s3⟩ := HC.out w' (HB.out w' hSw); go_simp; try rfl)
    try simp only [Act.put, List.setIfInBounds_toArray, List.set_cons_zero, List.set_cons_succ]
    refine held_one (i := 2) (by kernel_rfl) rfl (fun Kd hK => ?_)
    go_simp
    obtain ⟨hb, hs, b1, b2, b3, ho, hall⟩ := HI.out
    have hb20 : Below W.heap.size W Z0 := HS.out.2.1.trans (HZ0.out.mono HS.out.2.1.size)
    have ho0 : OwnI Z0 w1.heap.size (.slice Av ns.length cv) ns := ho.keep (fun k hk => hb20.block k (ho.lt k hk).2)
    have hints : IntsAt Z0 (.slice Av ns.length cv) ns := by
      refine ⟨Av, cv, rfl, fun hp => ?_⟩
      rcases ho0.2 with ⟨e, h0⟩ | ⟨b, cap, cur, e, _⟩
      · omega
      · injection e with e1 _ _
        refine ⟨b, 0, e1, fun j hj => ?_⟩
        subst e1
        rw [Nat.zero_add, World.ownsRow.cellAt ho0 j (by omega)]
        simp [iv, List.getElem?_eq_getElem hj]
    refine (removal_any g _ ns Z0 hints (by have := HNL.out.1; omega)).mono ?_
    rintro e Z1 ⟨vr1, c0, cs, rfl, hst1, hrem1, hb01⟩
    have hS1 : Keep (fun k => k = w.heap.size + 1 ∨ W.heap.size ≤ k) Z0 Z1 := Keep.of_below hb01
    have HREM := Lib.hid (And.intro hst1 (And.intro hrem1 (And.intro hb01 hb20)))
    clear hb hs b1 b2 b3 ho hall hb20 ho0 hints hst1 hrem1 hb01
    refine hK.out _ _ hS1 (fun _ => ?_)
    clear hK Kd
    try simp only [Act.put, List.setIfInBounds_toArray, List.set_cons_zero, List.set_cons_succ]
    refine held_one (i := 5) (by kernel_rfl) rfl (fun Kd hK => ?_)
    go_simp
    obtain ⟨hb, hs, b1, b2, b3, ho, hall⟩ := HI.out
    have hb0Z1 : Below w.heap.size w Z1 := hb.trans ((HREM.out.2.2.2.trans (HREM.out.2.2.1.mono HREM.out.2.2.2.size)).mono hb.size)
    have hlw := H.out.below hb0Z1
    have hbg := beginning_any g 1 s (some ⟨br, 0, none⟩) rl cr Z1 (by omega) hsz (by obtain ⟨_, _, hbg, _⟩ := hlw.log; rw [hbg.cell]; rfl) hlw.ld
    refine hbg.mono ?_
    rintro e Z2 ⟨vr2, c1, ct, cl, cn, crr, cf, rfl, hst2, hrem2, hbeg2, hb12⟩
    have hS2 : Keep (fun k => k = w.heap.size + 1 ∨ W.heap.size ≤ k) Z0 Z2 := hS1.trans (Keep.of_below (S := fun _ => False) hb12) (fun _ h => h) (fun _ _ h => h.elim)
    have HBEG := Lib.hid (And.intro hst2 (And.intro hrem2 (And.intro hbeg2 hb12)))
    clear hb hs b1 b2 b3 ho hall hb0Z1 hlw hbg hst2 hrem2 hbeg2 hb12
    refine hK.out _ _ hS2 (fun _ => ?_)
    clear hK Kd
    try simp only [Act.put, List.setIfInBounds_toArray, List.set_cons_zero, List.set_cons_succ]
    refine held_one (i := 6) (by kernel_rfl) rfl (fun Kd hK => ?_)
    obtain ⟨hb, hs, b1, b2, b3, ho, hall⟩ := HI.out
    obtain ⟨hst1, hrem1, hb01, hb20⟩ := HREM.out
    obtain ⟨hst2, hrem2, hbeg2, hb12⟩ := HBEG.out
    have hst1' := hst1.below hb12 (Nat.le_refl _)
    obtain ⟨v3, Z3, hrun3, hst3, hg3⟩ := run_append_steps hst1' hst2 (by
      rw [List.length_append, List.length_map, List.length_map, hrem1.2.2.1, hrem2.2.2.1]
      have := HNL.out.1
      simp [begFns]
      omega) (Nat.le_trans hb01.size hb12.size) 101
    obtain ⟨As, csz, hvs⟩ := hst1.shape
    have hS3 : Keep (fun k => k = w.heap.size + 1 ∨ W.heap.size ≤ k) Z0 Z3 := hS2.trans (Keep.of_grown (S := fun k => W.heap.size ≤ k) hg3 (fun k e => (by rw [hvs] at e hst1; exact Nat.le_trans hb20.size (hst1.row k e).1))) (fun _ h => h) (fun _ _ h => .inr h)
    obtain ⟨A3, c3, hv3⟩ := hst3.shape
    obtain ⟨nx, hnx⟩ : ∃ nx, nx = (cs.map (remFn c0) ++ (ct.map (remFn c1) ++ begFns cl cn crr cf)).length := ⟨_, rfl⟩
    rw [← hnx] at hv3
    clear hnx
    have HAPP := Lib.hid (And.intro hst3 (And.intro hg3 hst1'))
    subst hv3
    clear hb hs b1 b2 b3 ho hall hst1 hrem1 hb01 hb20 hst2 hrem2 hbeg2 hb12 hst1' hst3 hg3 hvs
    refine held_wanted rfl ?_
    refine oper_append (.tmp 38) (.tmp 41) 101 rfl rfl rfl hrun3 ?_
    refine hK.out _ _ hS3 (fun _ => ?_)
    clear hK Kd
    try simp only [Act.put, List.setIfInBounds_toArray, List.set_cons_zero, List.set_cons_succ]
    refine held_one (i := 7) (by kernel_rfl) rfl (fun Kd hK => ?_)
    have hbx2 : Blk Z3 (w.heap.size + 1) 101 #[.slice none 0 0] := by
      obtain ⟨hb, hs, b1, b2, b3, ho, hall⟩ := HI.out
      obtain ⟨hst1, hrem1, hb01, hb20⟩ := HREM.out
      obtain ⟨hst2, hrem2, hbeg2, hb12⟩ := HBEG.out
      obtain ⟨hst3, hg3, hst1'⟩ := HAPP.out
      obtain ⟨As, csz, hvs⟩ := hst1.shape
      have q1 := b2.below hb20 b2.lt
      have q2 := q1.below hb01 q1.lt
      have q3 := q2.below hb12 q2.lt
      rw [hvs] at hg3 hst1'
      exact grown_blk hst1' hg3 q3 (by decide)
    have f2 := hbx2.frozen 0
    have r2 : Z3.cell? ⟨w.heap.size + 1, 0, none⟩ = some (.slice none 0 0) := by rw [hbx2.cell]; rfl
    go_simp
    have hS4 : Keep (fun k => k = w.heap.size + 1 ∨ W.heap.size ≤ k) Z0 (Z3.setCell ⟨w.heap.size + 1, 0, none⟩ (.slice A3 nx c3)) := hS3.trans (Keep.setCell (S := fun k => k = w.heap.size + 1) Z3 _ _ rfl) (fun _ h => h) (fun _ _ h => .inl h)
    refine hK.out _ _ hS4 (fun _ => ?_)
    clear hK Kd
    try simp only [Act.put, List.setIfInBounds_toArray, List.set_cons_zero, List.set_cons_succ]
    refine wpAnyH_done (by kernel_rfl) ?_ _
    dsimp only [OnlyNormal]
    have hfin : (Z3.setCell ⟨w.heap.size + 1, 0, none⟩ (.slice A3 nx c3)).heap[D]? = some (.deferred (some [])) ∧ ((Z3.setCell ⟨w.heap.size + 1, 0, none⟩ (.slice A3 nx c3)).putObj D (.deferred none)).cell? ⟨w.heap.size + 1, 0, none⟩ = some (.slice A3 nx c3) ∧ OpnP w g s F ns (.slice A3 nx c3) ((Z3.setCell ⟨w.heap.size + 1, 0, none⟩ (.slice A3 nx c3)).putObj D (.deferred none)) := by
      obtain ⟨hb, hs, b1, b2, b3, ho, hall⟩ := HI.out
      obtain ⟨ho2, hb2, hcr, hbr⟩ := HS.out
      obtain ⟨hst1, hrem1, hb01, hb20⟩ := HREM.out
      obtain ⟨hst2, hrem2, hbeg2, hb12⟩ := HBEG.out
      obtain ⟨hst3, hg3, hst1'⟩ := HAPP.out
      obtain ⟨As, csz, hvs⟩ := hst1.shape
      have hz := HZ.out
      have hkW : Keep (fun k => k = w.heap.size + 1 ∨ W.heap.size ≤ k) W (Z3.setCell ⟨w.heap.size + 1, 0, none⟩ (.slice A3 nx c3)) := (Keep.of_below hb20).trans hS4 (fun _ h => h) (fun _ _ h => h)
      have hDl := (Array.getElem?_eq_some_iff.1 HKD.out).1
      have hD2 : (Z3.setCell ⟨w.heap.size + 1, 0, none⟩ (.slice A3 nx c3)).heap[D]? = some (.deferred (some [])) := (hkW.block D hDl (fun e => by omega)).trans HKD.out
      have hkp := blk_put (o' := .deferred none) hD2 rfl
      have hbE : Below w.heap.size w (Z3.setCell ⟨w.heap.size + 1, 0, none⟩ (.slice A3 nx c3)) := Keep.below hb hkW hb.size (fun i e => by have := hb.size; omega)
      have hbe := hbE.grown (grownBy_putObj' (Z3.setCell ⟨w.heap.size + 1, 0, none⟩ (.slice A3 nx c3)) D (.deferred none)) hbE.size (fun k e => by injection e with e; omega)
      rw [hvs] at hg3 hst1'
      have hfar : ∀ k t c, W.heap.size ≤ k → Blk Z3 k t c → Blk ((Z3.setCell ⟨w.heap.size + 1, 0, none⟩ (.slice A3 nx c3)).putObj D (.deferred none)) k t c := fun k t c hk hkb => hkp _ _ _ (hkb.far (p := ⟨w.heap.size + 1, 0, none⟩) (by show k ≠ w.heap.size + 1; omega) _)
      have hWZ0 : W.heap.size ≤ Z0.heap.size := hb20.size
      have hWZ1 : W.heap.size ≤ Z1.heap.size := Nat.le_trans hWZ0 hb01.size
      have hWw : w.heap.size ≤ W.heap.size := hb.size
      have hrem1' : RemAt w.heap.size ((Z3.setCell ⟨w.heap.size + 1, 0, none⟩ (.slice A3 nx c3)).putObj D (.deferred none)) g c0 cs ns := ((((hrem1.below hb12).kept (W' := Z3) (fun k t c _ ht hk => grown_blk hst1' hg3 hk (by rcases ht with rfl | rfl <;> decide))).kept (fun k t c hk _ hkb => hfar k t c (by omega) hkb)).mono (by omega))
      have hrem2' : RemAt w.heap.size ((Z3.setCell ⟨w.heap.size + 1, 0, none⟩ (.slice A3 nx c3)).putObj D (.deferred none)) g c1 ct [1] := (((hrem2.kept (W' := Z3) (fun k t c _ ht hk => grown_blk hst1' hg3 hk (by rcases ht with rfl | rfl <;> decide))).kept (fun k t c hk _ hkb => hfar k t c (by omega) hkb)).mono (by omega))
      have hbeg' := (hbeg2.kept (W' := Z3) (fun k t c _ ht hk => grown_blk hst1' hg3 hk ht)).kept (W' := (Z3.setCell ⟨w.heap.size + 1, 0, none⟩ (.slice A3 nx c3)).putObj D (.deferred none)) (fun k t c hk _ hkb => hfar k t c (by omega) hkb)
      have hbeg'' : BegAt w.heap.size ((Z3.setCell ⟨w.heap.size + 1, 0, none⟩ (.slice A3 nx c3)).putObj D (.deferred none)) g 1 s (.slice (some ⟨br, 0, none⟩) (recP []).length cr) cl cn crr cf := by
        rw [← HRL.out]
        exact ⟨⟨by have := hbeg'.bl.1; omega, hbeg'.bl.2⟩, ⟨by have := hbeg'.bn.1; omega, hbeg'.bn.2⟩, ⟨by have := hbeg'.br.1; omega, hbeg'.br.2⟩, ⟨by have := hbeg'.bf.1; omega, hbeg'.bf.2⟩⟩
      have hslt : SlT (fun k => w.heap.size ≤ k) ((Z3.setCell ⟨w.heap.size + 1, 0, none⟩ (.slice A3 nx c3)).putObj D (.deferred none)) (.slice (some ⟨br, 0, none⟩) (recP []).length cr) (recP []) := by
        refine (ho2.slT (T := fun k => W.heap.size ≤ k) (fun k h _ => h)).kept (fun k c hk hkb => ⟨by have hk : W.heap.size ≤ k := hk; omega, ?_⟩)
        have h1 : Blk Z0 k 5 c := hkb.below HZ0.out hkb.lt
        have h2 := h1.below hb01 h1.lt
        exact hfar k _ c hk (grown_blk hst1' hg3 (h2.below hb12 h2.lt) (by decide))
      have hst4 : Stps w.heap.size ((Z3.setCell ⟨w.heap.size + 1, 0, none⟩ (.slice A3 nx c3)).putObj D (.deferred none)) (.slice A3 nx c3) (cs.map (remFn c0) ++ (ct.map (remFn c1) ++ begFns cl cn crr cf)) := by
        refine ⟨hst3.1, ?_⟩
        rcases hst3.2 with h | ⟨g, cap, cur, e1, e2, hh, r⟩
        · exact .inl h
        · exact .inr ⟨g, cap, cur, e1, by omega, hfar g _ cur (by omega) hh, r⟩
      have hbx2 : Blk Z3 (w.heap.size + 1) 101 #[.slice none 0 0] := by
        have q1 := b2.below hb20 b2.lt
        have q2 := q1.below hb01 q1.lt
        exact grown_blk hst1' hg3 (q2.below hb12 q2.lt) (by decide)
      refine ⟨hD2, by rw [(hkp _ _ _ (hbx2.set_ 0 _)).cell]; rfl, hbe, .inr ⟨hall, br, 0, cr, c0, cs, c1, ct, cl, cn, crr, cf, hrem1', hrem2', hbeg'', hslt, by rw [← HRL.out]; rw [← HRL.out] at hcr; exact hcr, hst4⟩⟩
    have HFIN := Lib.hid hfin
    clear hfin hS0 hS1 hS2 hS3 hS4 hbx2 f2 r2 hrun3
    gi_wp2
    refine ⟨by simp, .inl ⟨_, _, rfl, run_takeDeferred HFIN.out.1, ?_⟩⟩
    have hc5 := HFIN.out.2.1
    refine ⟨_, ?_, _, rfl, HFIN.out.2.2⟩
    simp [results, Tryz.f56, go_sem, hc5]
end Go.Proofs.YtibifnknkphanaaGreatDoor

/-
  Open: the log of that name as it stands on the disk, which is tidied for it.
-/
namespace Go.Proofs.YtibifnknkphanaaGreatDoor
open Go.RowKit Go.Maps
open DskM WalM
set_option linter.unusedVariables false
set_option linter.unusedSimpArgs false
set_option maxRecDepth 20000
attribute [local go_sem] Oper.semAt_some

theorem whole_le (b : List UInt8) : (wholeP b).length ≤ b.length := by
  have h : ∀ (f : Nat) (l : List UInt8) (o : Nat), (wholeF f l o).length ≤ f := by
    intro f
    induction f with
    | zero => intro l o; exact Nat.le_refl _
    | succ f ih =>
      intro l o
      unfold wholeF
      split
      · rw [List.length_cons]; have := ih (l.drop (8 + beN (l.take 4))) (o + (8 + beN (l.take 4))); omega
      · exact Nat.zero_le _
  exact h _ _ _
/-- The steps of an opening are steps. -/
theorem open_steps {D T : Nat → Prop} {w w' : World} {g p : Nat} {s : ByteArray} {most : Int} {S : Ds} {F : List Fp} {L : Lg} {vs : Value} (h : LW D T w g p s most S F L) (hsz : s.size ≤ 1000000) (hlb : ∀ n, (bytesP F (segS s n).data.toList).length ≤ 1000000) (hF : F.length ≤ 64) (ho : OpnP w g s F (numsP s.data.toList F) vs w') :
    ∃ xs E, Stps w.heap.size w' vs xs ∧ StepsOk D w' g p s most E T xs (openSteps s F) ∧ (∀ j, E j → T j ∨ (w.heap.size ≤ j ∧ ∃ C, Blk w' j 22 C)) ∧ 0 < xs.length ∧ xs.length ≤ 100 := by
  have hle : ∀ n ∈ numsP s.data.toList F, n ≤ 2147483647 := fun n hn => (numsP_le hn).2
  have hnl : (numsP s.data.toList F).length ≤ 64 := Nat.le_trans (numsP_len _ _) hF
  obtain ⟨hb, hcase⟩ := ho
  unfold openSteps
  generalize numsP s.data.toList F = ns at hle hnl hcase ⊢
  have hBB : ∀ B, w.heap.size ≤ B → ∀ k, B ≤ k → ¬ (D k ∨ T k) := fun B hB k hk e => by
    rcases e with e | e
    · have := h.dlt k e; omega
    · have := h.tlt k e; omega
  rcases hcase with ⟨i, hi, hhi, hne, xs, vr, cl, cn, cf, cr, cz, c0, cs, B1, B2, hxs, hx0, h1, h2, h3, hta, hrem, hst⟩ | ⟨hall, br, o, c, c0, cs, c1, ct, cl, cn, cr, cf, hrem, hrem1, hbeg, hsl, hcr, hst⟩
  · have hget : ns.getD i 0 = ns[i] := by rw [List.getD_eq_getElem?_getD, List.getElem?_eq_getElem hi]; rfl
    have hskip : openAt s F ns ns.length = openAt s F ns (i + 1) := openAt_skip ns.length (by omega) (fun j h1 h2 => hhi j (by omega) h2)
    have hone : openAt s F ns (i + 1) = takeSteps s (ns.getD i 0) (bytesP F (segS s (ns.getD i 0)).data.toList) ++ remsP s (ns.eraseIdx i) := by
      rw [openAt, if_neg (by rw [List.isEmpty_iff]; exact hne)]
    rw [hskip, hone]
    have hxl : xs.length ≤ 1000000 := by
      have h5 := whole_le (bytesP F (segS s (ns.getD i 0)).data.toList)
      have h6 := hlb (ns.getD i 0)
      have h7 := congrArg List.length hxs
      rw [List.length_map] at h7
      omega
    obtain ⟨rb, hvr, hrb, ⟨C, hC⟩, hk⟩ := taking_ok (D := D) (T := T) (p := p) (most := most) (hBB B1 h1) (h.ld.far (S := fun j => B1 ≤ j) (fun j hj => by have hj : B1 ≤ j := hj; omega)) hta hx0 (by rw [hget]; exact hle _ (List.getElem_mem hi)) hxl _ hxs
    have hrb2 := h3 rb C hC hvr
    have hrems := rem_ok (D := D) (T := fun j => T j ∨ j = rb) (p := p) (most := most) (B := B2) (fun k hk e => by
      rcases e with e | e | e
      · exact hBB B2 (by omega) k hk (.inl e)
      · exact hBB B2 (by omega) k hk (.inr e)
      · omega) hsz cs (ns.eraseIdx i) hrem (fun n hn => by have := hle n (List.mem_of_mem_eraseIdx hn); omega)
    refine ⟨_, fun j => T j ∨ j = rb, hst, hk _ _ _ hrems.steps, fun j hj => ?_, ?_, ?_⟩
    · rcases hj with e | e
      · exact .inl e
      · subst e; exact .inr ⟨by omega, C, hC⟩
    · rw [List.length_append]; unfold takeFns; simp; omega
    · rw [List.length_append, List.length_map, hrem.2.2.1, List.length_eraseIdx_of_lt hi]
      unfold takeFns
      split <;> simp <;> omega
  · have hskip : openAt s F ns ns.length = openAt s F ns 0 := openAt_skip ns.length (by omega) (fun j h1 h2 => hall j h2)
    rw [hskip]
    have hB := hBB w.heap.size (Nat.le_refl _)
    have r1 := rem_ok (D := D) (T := T) (p := p) (most := most) hB hsz cs ns hrem (fun n hn => by have := hle n hn; omega)
    have r2 := rem_ok (D := D) (T := T) (p := p) (most := most) hB hsz ct [1] hrem1 (fun n hn => by have := List.mem_singleton.1 hn; omega)
    have hl8 : 8 ≤ (recP []).length := by rw [recP_length]; omega
    have r3 := beg_ok (D := D) (T := T) (p := p) (most := most) hB hbeg (hsl.kept (fun k c hk hkb => ⟨⟨fun e => hB k hk (.inl e), fun e => hB k hk (.inr e)⟩, hkb⟩)) hl8 hcr (by omega)
    refine ⟨_, T, hst, (r1.app (r2.app r3)).steps, fun j hj => .inl hj, ?_, ?_⟩
    · simp [begFns]; omega
    · rw [List.length_append, List.length_append, List.length_map, List.length_map, hrem.2.2.1, hrem1.2.2.1]
      simp [begFns]
      omega
def mayOpen (s : ByteArray) (most : Int) : Bool := mayB s.data.toList && decide (s.size ≤ 16) && decide (1 ≤ most) && decide (most ≤ 1048576)
theorem NoneIs.nil (w : World) : NoneIs w none true := Nd.noneIs (.inl rfl)
theorem wopen_nd {P : Option Addr} (w : World) (hp : NoneIs w P true) (s : ByteArray) (most : Int) :
    Calls Tryz.prog 17 #[.pointer P, .string s, .int .i64 most] w fun e w' => e = .returned (.tuple #[.pointer none, .int .i64 2]) ∧ Below w.heap.size w w' := by
  have HS := Lib.hid (same_nn hp (NoneIs.nil w))
  clear hp
  go_enter Tryz.func17, Tryz.ntmps17
  go_wp2_with fail
  refine HS.out.mono ?_
  rintro e w1 ⟨rfl, hb1⟩
  have HB := Lib.hid hb1
  clear hb1 HS
  go_wp2
  go_ret2
  exact ⟨rfl, HB.out⟩
theorem wopen_bad {P : Option Addr} (w : World) (hp : NoneIs w P false) (s : ByteArray) (most : Int) (hbad : mayOpen s most = false) :
    Calls Tryz.prog 17 #[.pointer P, .string s, .int .i64 most] w fun e w' => e = .returned (.tuple #[.pointer none, .int .i64 2]) ∧ Below w.heap.size w w' := by
  have HS := Lib.hid (same_dn hp (NoneIs.nil w))
  have HM := Lib.hid (fun W => mayName_any s W)
  unfold mayOpen at hbad
  clear hp
  go_enter Tryz.func17, Tryz.ntmps17
  go_wp2_with fail
  refine HS.out.mono ?_
  rintro e w1 ⟨rfl, hb1⟩
  have HB := Lib.hid hb1
  clear hb1 HS
  go_wp2_with fail
  refine (HM.out w1).mono ?_
  rintro e w2 ⟨rfl, hb2⟩
  have HB2 := Lib.hid (HB.out.trans (hb2.mono HB.out.size))
  clear hb2 HM HB
  generalize mayB s.data.toList = mb at hbad ⊢
  cases mb with
  | false =>
    clear hbad
    go_wp2
    go_ret2
    exact ⟨rfl, HB2.out⟩
  | true =>
    by_cases h16 : s.size ≤ 16
    · have g16 : ¬ (16 : Int) < (s.size : Int) := by omega
      by_cases h1 : 1 ≤ most
      · have g1 : ¬ most < 1 := by omega
        have h2 : (1048576 : Int) < most := by
          rw [decide_eq_true h16, decide_eq_true h1] at hbad
          simp at hbad
          omega
        clear hbad h16 h1
        go_wp2
        go_ret2
        exact ⟨rfl, HB2.out⟩
      · have g1 : most < 1 := by omega
        clear hbad h16 h1
        go_wp2
        go_ret2
        exact ⟨rfl, HB2.out⟩
    · have g16 : (16 : Int) < (s.size : Int) := by omega
      clear hbad h16
      go_wp2
      go_ret2
      exact ⟨rfl, HB2.out⟩
def L0 : Lg := { num := 0, snap := [], recs := [], size := 0, synced := 0, dead := false }
/-- What an opening comes to. -/
def openL (s : ByteArray) (S : Ds) (F : List Fp) : Int × Ds × List Fp × Lg := runP (openSteps s F) S F L0
theorem runP_len {D : Nat → Prop} {w : World} {g p : Nat} {s : ByteArray} {most : Int} {E T : Nat → Prop} {xs : List (Nat × Array Value)} {fs : List PStep} (h : StepsOk D w g p s most E T xs fs) : fs.length = xs.length := h.len.symm
set_option maxHeartbeats 4000000 in
theorem wopen_any {D : Nat → Prop} {w : World} {p : Nat} {S : Ds} {F : List Fp} (hd : Mx D w p S F) (hlt : ∀ j, D j → j < w.heap.size) (hfd : Far D) (hld : Ld w) (s : ByteArray) (most : Int) (hok : mayOpen s most = true) (hlb : ∀ n, (bytesP F (segS s n).data.toList).length ≤ 1000000) (hF : F.length ≤ 64) (hw : S.wr + 100 ≤ 1000000)
    {r : Int × Ds × List Fp × Lg} (hr : openL s S F = r) :
    Calls Tryz.prog 17 #[.pointer (some ⟨p, 0, none⟩), .string s, .int .i64 most] w fun e w' => ∃ g, w.heap.size ≤ g ∧ e = .returned (.tuple #[.pointer (if r.1 = 0 then some ⟨g, 0, none⟩ else none), .int .i64 r.1]) ∧
      ∃ D' T', LW D' T' w' g p s most r.2.1 r.2.2.1 r.2.2.2 ∧ (∀ j, D' j → D j ∨ w.heap.size ≤ j) ∧ (∀ j, T' j → w.heap.size ≤ j) ∧ Keep D w w' := by
  have hok' := hok
  unfold mayOpen at hok'
  rw [Bool.and_eq_true, Bool.and_eq_true, Bool.and_eq_true, decide_eq_true_iff, decide_eq_true_iff, decide_eq_true_iff] at hok'
  obtain ⟨⟨⟨h0, h16⟩, h1⟩, h2⟩ := hok'
  obtain ⟨m, Lf, hpl, hdk, hft⟩ := id hd
  have HS := Lib.hid (same_dn (P := some ⟨p, 0, none⟩) hdk.noneIs (NoneIs.nil w))
  have hm := fun W => mayName_any s W
  simp only [h0] at hm
  have HM := Lib.hid hm
  have HD := Lib.hid (And.intro hd (And.intro hlt (And.intro hfd hld)))
  have g16 : ¬ (16 : Int) < (s.size : Int) := by omega
  have g1 : ¬ most < 1 := by omega
  have g2 : ¬ (1048576 : Int) < most := by omega
  have hsz : s.size ≤ 1000000 := by omega
  clear hm h0 h16 h1 h2 hok hd hlt hfd hld hdk hft hpl
  go_enter Tryz.func17, Tryz.ntmps17
  go_wp2_with fail
  refine HS.out.mono ?_
  rintro e w1 ⟨rfl, hb1⟩
  have HB := Lib.hid hb1
  clear hb1 HS
  go_wp2_with fail
  refine (HM.out w1).mono ?_
  rintro e w2 ⟨rfl, hb2⟩
  have HB2 := Lib.hid (HB.out.trans (hb2.mono HB.out.size))
  clear hb2 HM HB
  obtain ⟨w3, hw3⟩ : ∃ w3, w3 = w2.alloc (.cells (lgCells p s most 0 (.slice none 0 0) (.slice none 0 0) 0 0 false) 60) := ⟨_, rfl⟩
  have hb3 : Below w2.heap.size w2 w3 := by rw [hw3]; exact al_one w2 _
  have kg : Blk w3 w2.heap.size 60 (lgCells p s most 0 (.slice none 0 0) (.slice none 0 0) 0 0 false) := by rw [hw3]; exact Blk.new w2 _ _
  have hb03 : Below w.heap.size w w3 := HB2.out.trans (hb3.mono HB2.out.size)
  obtain ⟨hd, hlt, hfd, hld⟩ := HD.out
  have hws : w.heap.size ≤ w2.heap.size := HB2.out.size
  have hld3 := hld.below hb03
  have hlw : LW D (fun j => j = w2.heap.size) w3 w2.heap.size p s most S F L0 :=
    ⟨hd.below hb03, ⟨_, _, kg, rfl, SlT.nil _ _ _ _, RowT.nil _ _ _⟩, fun j hj e => by have := hlt j hj; omega, fun j hj => Nat.lt_of_lt_of_le (hlt j hj) hb03.size, fun j hj => by rw [hj]; exact kg.lt, hld3, hfd, hld.far (fun i hi => by rw [hi]; exact hws), by show 0 ≤ 2147483647; omega⟩
  have HOP := Lib.hid (opening_any hlw hsz hlb hF)
  have HLW := Lib.hid hlw
  have HLB := Lib.hid hlb
  have HW3 := Lib.hid (show w3 = w2.alloc (.cells #[.pointer (some ⟨p, 0, none⟩), .string s, .int .i64 most, .int .i64 0, .slice none 0 0, .slice none 0 0, .int .i64 0, .int .i64 0, .bool false] 60) from hw3)
  have HX := Lib.hid (And.intro hb03 hws)
  clear hw3 hb3 kg hb03 hd hlt hfd hld hws hld3 hlw hlb
  go_wp2_with fail
  try rw [← HW3.out]
  refine HOP.out.mono ?_
  rintro e w4 ⟨vs, rfl, hop⟩
  have hb4 : Below w3.heap.size w3 w4 := hop.1
  obtain ⟨xs, E, hst, hok, hE, hx0, hx1⟩ := open_steps HLW.out hsz HLB.out hF hop
  have hlw4 := HLW.out.below hb4
  obtain ⟨A, c, hvs⟩ := hst.shape
  subst hvs
  obtain ⟨b, hA, _, hB, hbl, hcell⟩ := hst.cells hx0
  obtain ⟨_, C, hC⟩ := hst.row b (by rw [hA]; rfl)
  subst hA
  have hnb : ¬ (D b ∨ E b) := fun e => by
    rcases e with e | e
    · have := HLW.out.dlt b e; omega
    · rcases hE b e with e | ⟨_, C', hC'⟩
      · have := HLW.out.tlt b e; omega
      · have e := hC.symm.trans hC'
        injection e with e
        injection e with _ e
        revert e; decide
  have hdo := do_any xs (openSteps s F) hok hlw4.refl b 0 c (by rw [← hok.len]; omega) (by show 0 ≤ 1000001; omega) hcell hnb (by omega)
  rw [show runP (openSteps s F) S F L0 = r from hr] at hdo
  have HDO := Lib.hid hdo
  have HY := Lib.hid (And.intro hb4 hE)
  clear hdo hcell hC hok hst hb4 hlw4 hop hE hnb HOP hr hx1 hbl
  go_wp2_with fail
  refine HDO.out.mono ?_
  rintro e w5 ⟨rfl, hlt5⟩
  have HE : Hid (∃ D' T', LW D' T' w5 w2.heap.size p s most r.2.1 r.2.2.1 r.2.2.2 ∧ (∀ j, D' j → D j ∨ w.heap.size ≤ j) ∧ (∀ j, T' j → w.heap.size ≤ j) ∧ Keep D w w5) := Lib.hid (by
    obtain ⟨D1, T1, h1, h2, h3, h4⟩ := hlt5
    obtain ⟨hb4, hE⟩ := HY.out
    obtain ⟨hb03, hws⟩ := HX.out
    have hs3 := hb03.size
    have hs4 := hb4.size
    have hEs : ∀ j, E j → w.heap.size ≤ j := fun j e => by
      rcases hE j e with e | ⟨e, _⟩
      · have e : j = w2.heap.size := e
        omega
      · omega
    refine ⟨D1, T1, h1, fun j hj => (h2 j hj).imp id (fun e => by omega), fun j hj => (h3 j hj).elim (hEs j) (fun e => by omega), ?_⟩
    exact ((Keep.of_below hb03).trans (Keep.of_below (S := D) hb4) (fun _ h => h) (fun _ _ h => h)).trans h4 (fun _ h => h) (fun i hi e => e.elim id (fun e => by have := hEs i e; omega)))
  clear hlt5 HDO HY
  obtain ⟨rc, rS, rF, rL⟩ := r
  dsimp only at HE ⊢
  by_cases hrc : rc = 0
  · subst hrc
    go_wp2
    go_ret2
    refine ⟨w2.heap.size, HX.out.2, ?_, HE.out⟩
    simp
  · have hb : (rc != 0) = true := by rw [bne_iff_ne]; exact hrc
    have HRC := Lib.hid hrc
    clear hrc
    go_wp2
    go_ret2
    refine ⟨w2.heap.size, HX.out.2, ?_, HE.out⟩
    simp [HRC.out]
end Go.Proofs.YtibifnknkphanaaGreatDoor

/-
  The walks of orset's mayName, MayKey, all; the answer of an order's walk on dots.
-/
import Derived.Test.YtldfaaahmpncbaaGreatCtxHas
import Derived.Test.YtldfaaahmpncbaaGreatCtxTurn
import Derived.Test.YtldfaaahmpncbaaGreatCtxMath
import Derived.Test.YtldfaaahmpncbaaGreatProg
import Derived.Maps.Ext
import Derived.Maps.Keyed
import Derived.Maps.OwnSet
import Derived.DeepKeys4
import Derived.Test.YtldfaaahmpncbaaGreatCtxRefA
import Derived.Deep.Cut
import Derived.Test.YtldfaaahmpncbaaGreatHeldA
import Derived.Test.YtldfaaahmpncbaaGreatCtxMem
import Derived.Shelf.SlSortCmp.QuietGrown
import Derived.Laws.Rows
import Derived.Test.YtldfaaahmpncbaaGreatCtxNew
namespace Go.Proofs.YtldfaaahmpncbaaGreat
open Go.RowKit
open CtxM
set_option linter.unusedVariables false
set_option linter.unusedSimpArgs false
set_option maxRecDepth 20000

/-- May this be a name? -/
def nameB (s : ByteArray) : Bool := decide (1 ≤ s.size ∧ s.size ≤ 32)
theorem name_1 {s : ByteArray} (h : (s.size : Int) < 1) : nameB s = false := decide_eq_false (by omega)
theorem name_2 {s : ByteArray} (h : 32 < (s.size : Int)) : nameB s = false := decide_eq_false (by omega)
theorem name_3 {s : ByteArray} (h : 1 ≤ (s.size : Int)) (h2 : (s.size : Int) ≤ 32) : nameB s = true := decide_eq_true (by omega)
theorem name_4 {s : ByteArray} (h : 1 ≤ (s.size : Int)) : decide ((s.size : Int) ≤ 32) = nameB s := by
  unfold nameB
  exact decide_eq_decide.2 ⟨fun h2 => ⟨by omega, by omega⟩, fun h2 => by omega⟩
theorem oname_any (s : ByteArray) (w : World) : Calls Tryz.prog 63 #[.string s] w fun e w' => e = .returned (.bool (nameB s)) ∧ w' = w := by
  go_enter Tryz.func63, Tryz.ntmps63
  go_wp2
  all_goals go_ret
  all_goals refine ⟨congrArg (fun b => Ending.returned (.bool b)) ?_, rfl⟩
  · exact name_4 (by assumption)
  · exact (name_1 (by omega)).symm
theorem cD_low {a b : Dt} (h : Lt a b) : cD a b = -1 := by
  rcases h with h | ⟨h, k⟩
  · rw [cD, if_neg (by rw [cI_1 h]; decide), cI_1 h]
  · rw [cD, if_pos (cI_3 h), cI_1 (by omega)]
theorem cD_high {a b : Dt} (h : Lt b a) : cD a b = 1 := by
  rcases h with h | ⟨h, k⟩
  · rw [cD, if_neg (by rw [cI_2 h]; decide), cI_2 h]
  · rw [cD, if_pos (cI_3 h.symm), cI_2 (by omega)]
theorem mayKey_any (t d : ByteArray) (w : World) : Calls Tryz.prog 20 #[.agg #[.string t, .string d]] w fun e w' => e = .returned (.bool (nameB t && nameB d)) ∧ Grw w w' := by
  obtain ⟨nb, hnb, hN⟩ : ∃ nb : ByteArray → Bool, nb = nameB ∧ ∀ s W, Calls Tryz.prog 63 #[.string s] W fun e w' => e = .returned (.bool (nb s)) ∧ w' = W := ⟨nameB, rfl, oname_any⟩
  rw [← hnb]
  clear hnb
  go_enter Tryz.func20, Tryz.ntmps20
  have hg := (Grw.refl w).alloc (.cells #[.string t, .string d] 39)
  cases hb : nb t
  · go_wp2_with (go_at_call 63; refine (hN _ _).mono ?_; rintro e w' ⟨rfl, rfl⟩; try rw [hb])
    go_ret
    exact ⟨by simp, hg⟩
  · go_wp2_with (go_at_call 63; refine (hN _ _).mono ?_; rintro e w' ⟨rfl, rfl⟩; try rw [hb])
    go_ret
    exact ⟨by simp, hg⟩
theorem all_any (d : Dt) (w : World) : Calls Tryz.prog 53 #[.agg #[.int .i64 d.1, .int .u64 (d.2 : Int)]] w fun e w' => e = .returned (.bool true) ∧ Grw w w' := by
  go_enter Tryz.func53, Tryz.ntmps53
  go_wp2
  go_ret
  exact ⟨rfl, by first | exact Grw.refl w | exact (Grw.refl w).alloc _⟩
end Go.Proofs.YtldfaaahmpncbaaGreat

namespace Go.Proofs.YtldfaaahmpncbaaGreat
open Go.Maps Go.WideShapes Go.WideMaps
open CtxM
set_option linter.unusedVariables false
set_option linter.unusedSimpArgs false
set_option maxRecDepth 20000

theorem dotLaid : laidOutB Tryz.prog = true := by kernel_rfl
theorem dotLaw : KeyLaw Tryz.prog 41 := deep_law_laid dotLaid (m := 2) (by omega) (of_decide_eq_true (by kernel_rfl)) (by kernel_rfl) (by rw [Tryz.underlying41])
theorem dotK : Keyed Tryz.prog 41 := Keyed.of_law dotLaw
/-- A dot as a value. -/
def dval (d : Dt) : Value := .agg #[.int .i64 d.1, .int .u64 (d.2 : Int)]
/-- Its numbers are those of their types. -/
def OkD (d : Dt) : Prop := -9223372036854775808 ≤ d.1 ∧ d.1 ≤ 9223372036854775807 ∧ d.2 ≤ 18446744073709551615
theorem OkD.of_may {d : Dt} (h : May d) : OkD d := by
  obtain ⟨h1, h2, h3, h4⟩ := h
  unfold top at h4
  exact ⟨by omega, by omega, by omega⟩
/-- Its key in a map's datum. -/
def litD (d : Dt) : Lit := .string (keyBytes [.int .i64 d.1, .int .u64 (d.2 : Int)])
/-- For any program: a struct of an int and a uint64 as a key. -/
theorem keyOf_pair {P : Program} {k ti tu : TypeId} {fs : Array Field} (hu : P.underlying k = some (.struct fs)) {n1 n2 : String} {f1 f2 : Field} (hfs : fs = #[f1, f2]) (h1t : f1.type = ti) (h2t : f2.type = tu) (h1o : f1.offset = 0) (h2o : f2.offset = 1) (hn1 : (f1.name != "_") = true) (hn2 : (f2.name != "_") = true)
    (hi : P.underlying ti = some (.int .i64)) (hq : P.underlying tu = some (.int .u64)) (hc : P.cellsOf k = 2) (hc1 : P.cellsOf ti = 1) (hc2 : P.cellsOf tu = 1) (hk : P.keyType k = true) {m : Nat} (hs : P.types.size = m + 1) {a b : Int} (w1 : (Lit.int .i64 a).wf = true) (w2 : (Lit.int .u64 b).wf = true) :
    keyOf P k (.agg #[.int .i64 a, .int .u64 b]) = some (.string (keyBytes [.int .i64 a, .int .u64 b])) := by
  subst hfs h1t h2t
  have hf : (Value.agg #[Value.int .i64 a, Value.int .u64 b]).formed P k = true := by simp [Value.formed, hu, hc]
  unfold keyOf
  simp only [hu, hk, hf, Bool.and_self, if_true, hs]
  simp [Program.keyLits, hu, hi, hq, hc, hc1, hc2, h1o, h2o, hn1, hn2, Value.cells, w1, w2]
theorem keyOf_dot {d : Dt} (h : OkD d) : keyOf Tryz.prog 41 (dval d) = some (litD d) := by
  obtain ⟨h1, h2, h3⟩ := h
  have e1 : IntKind.i64.min = -9223372036854775808 := by decide
  have e2 : IntKind.i64.max = 9223372036854775807 := by decide
  have e3 : IntKind.u64.min = 0 := by decide
  have e4 : IntKind.u64.max = 18446744073709551615 := by decide
  have w1 : (Lit.int .i64 d.1).wf = true := by simp only [Lit.wf, Bool.and_eq_true, decide_eq_true_eq, e1, e2]; omega
  have w2 : (Lit.int .u64 (d.2 : Int)).wf = true := by simp only [Lit.wf, Bool.and_eq_true, decide_eq_true_eq, e3, e4]; omega
  exact keyOf_pair Tryz.underlying41 (n1 := "") (n2 := "") rfl rfl rfl rfl rfl (by decide) (by decide) Tryz.underlying3 Tryz.underlying28 (by kernel_rfl) (by kernel_rfl) (by kernel_rfl) (by kernel_rfl) (m := Tryz.prog.types.size - 1) (by kernel_rfl) w1 w2
theorem litD_key (d : Dt) : WideAt.IsKeyLit (litD d) := trivial
theorem litD_inj {a b : Dt} (ha : OkD a) (hb : OkD b) (h : litD a = litD b) : a = b := by
  have := dotK.inj (keyOf_dot ha) ((keyOf_dot hb).trans (by rw [h]))
  unfold dval at this
  injection this with this
  have e := congrArg Array.toList this
  simp at e
  obtain ⟨e1, e2⟩ := e
  exact Prod.ext e1 (by exact_mod_cast e2)
theorem litD_of {d : Dt} (h : OkD d) : KeysOf Tryz.prog 41 (litD d) := ⟨_, keyOf_dot h⟩

section
variable {α : Type} {R : α → DataW Unit}
/-- An entry as it reads. -/
def enD (R : α → DataW Unit) (p : Dt × α) : Lit × DataW Unit := (litD p.1, R p.2)
/-- The map of these entries, as it reads. -/
def MD (R : α → DataW Unit) (L : List (Dt × α)) : DataW Unit := .map ((L.map (enD R)).foldr DataW.insert [])
/-- No dot twice, and all in their types' bounds. -/
def OkL (L : List (Dt × α)) : Prop := L.Pairwise (fun a b => a.1 ≠ b.1) ∧ ∀ p ∈ L, OkD p.1
/-- The entries at other dots. -/
def butD (d : Dt) (L : List (Dt × α)) : List (Dt × α) := L.filter fun p => !decide (p.1 = d)

theorem OkL.keys {L : List (Dt × α)} (h : OkL L) : Keys (KeysOf Tryz.prog 41) (L.map (enD R)) := by
  intro p hp
  obtain ⟨x, hx, rfl⟩ := List.mem_map.1 hp
  exact litD_of (h.2 x hx)
theorem OkL.apart {L : List (Dt × α)} (h : OkL L) : (L.map (enD R)).Pairwise (fun p q => p.1 ≠ q.1) := by
  rw [List.pairwise_map]
  exact h.1.imp_of_mem fun {a b} ha hb hne e => hne (litD_inj (h.2 a ha) (h.2 b hb) e)
theorem OkL.perm {L M : List (Dt × α)} (h : OkL L) (hp : L.Perm M) : OkL M :=
  ⟨(hp.pairwise_iff (fun {a b} (h : a.1 ≠ b.1) => h.symm)).1 h.1, fun p hp' => h.2 p (hp.mem_iff.2 hp')⟩
theorem OkL.but {L : List (Dt × α)} (h : OkL L) (d : Dt) : OkL (butD d L) := ⟨h.1.filter _, fun p hp => h.2 p (List.mem_filter.1 hp).1⟩
theorem OkL.put {L : List (Dt × α)} (h : OkL L) {d : Dt} (hd : OkD d) (a : α) : OkL ((d, a) :: butD d L) :=
  ⟨List.pairwise_cons.2 ⟨fun p hp => by have := (List.mem_filter.1 hp).2; simp at this; exact fun e => this e.symm, (h.but d).1⟩, fun p hp => by
    rcases List.mem_cons.1 hp with rfl | hp
    · exact hd
    · exact (h.but d).2 p hp⟩
theorem OkL.nil : OkL ([] : List (Dt × α)) := ⟨List.Pairwise.nil, by simp⟩
theorem but_none {L : List (Dt × α)} {d : Dt} (h : d ∉ L.map Prod.fst) : butD d L = L := by
  unfold butD
  refine List.filter_eq_self.2 fun p hp => ?_
  have : p.1 ≠ d := fun e => h (e ▸ List.mem_map.2 ⟨p, hp, rfl⟩)
  simp [this]

theorem apart_ne : ∀ {L : List (Dt × α)}, OkL L → ∀ {x y : Dt × α}, x ∈ L → y ∈ L → x ≠ y → x.1 ≠ y.1
  | [], _, x, _, hx, _, _ => absurd hx (by simp)
  | z :: L, h, x, y, hx, hy, hne => by
    obtain ⟨h1, h2⟩ := List.pairwise_cons.1 h.1
    rcases List.mem_cons.1 hx with e | hx'
    · rcases List.mem_cons.1 hy with e' | hy'
      · exact absurd (e.trans e'.symm) hne
      · rw [e]; exact h1 y hy'
    · rcases List.mem_cons.1 hy with e' | hy'
      · rw [e']; exact (h1 x hx').symm
      · exact apart_ne ⟨h2, fun p hp => h.2 p (List.mem_cons_of_mem _ hp)⟩ hx' hy' hne
/-- The order of the entries tells nothing. -/
theorem MD_perm {L M : List (Dt × α)} (h : OkL L) (hp : L.Perm M) : MD R L = MD R M := by
  unfold MD
  congr 1
  exact ChangeMaps.eq_of_perm_sorted ((sorted_perm _).trans ((hp.map _).trans (sorted_perm _).symm)) (sorted_sorted dotK.one _ h.keys h.apart) (sorted_sorted dotK.one _ (h.perm hp).keys (h.perm hp).apart)
theorem filter_enD {L : List (Dt × α)} (h : ∀ p ∈ L, OkD p.1) {d : Dt} (hd : OkD d) : (L.map (enD R)).filter (ChangeMaps.notKey (litD d)) = (butD d L).map (enD R) := by
  unfold butD
  rw [List.filter_map]
  congr 1
  refine List.filter_congr fun p hp => ?_
  have hi := @notKey_iff Unit (litD d) (enD R p) (litD_key d)
  by_cases e : p.1 = d
  · have : ¬ (ChangeMaps.notKey (litD d) (enD R p) = true) := fun hc => hi.1 hc (by show litD p.1 = _; rw [e])
    simp [e, this]
  · have : ChangeMaps.notKey (litD d) (enD R p) = true := hi.2 fun hc => e (litD_inj (h p hp) hd hc)
    simp [e, this]
theorem del_MD {L : List (Dt × α)} (h : OkL L) {d : Dt} (hd : OkD d) : (MD R L).del (litD d) = MD R (butD d L) := by
  unfold MD
  rw [DataW.del_eq]
  congr 1
  exact (sorted_del dotK.one h.keys h.apart (by rw [filter_enD h.2 hd])).symm
theorem put_MD {L : List (Dt × α)} (h : OkL L) {d : Dt} (hd : OkD d) (a : α) : (MD R L).put (litD d) (R a) = MD R ((d, a) :: butD d L) := by
  unfold MD
  rw [DataW.put_eq]
  congr 1
  refine (sorted_put dotK.one (litD_of hd) h.keys h.apart ?_).symm
  rw [filter_enD h.2 hd]
  exact List.Perm.refl _
theorem size_MD (L : List (Dt × α)) : Maps.size (MD R L) = L.length := by
  show List.length _ = _
  rw [length_sorted, List.length_map]
theorem mem_MD {L : List (Dt × α)} {p : Lit × DataW Unit} : p ∈ (L.map (enD R)).foldr DataW.insert [] ↔ ∃ x ∈ L, enD R x = p :=
  ((sorted_perm _).mem_iff).trans List.mem_map
theorem has_MD {L : List (Dt × α)} (h : OkL L) {d : Dt} (hd : OkD d) : Maps.has (MD R L) (litD d) = decide (d ∈ L.map Prod.fst) := by
  unfold MD
  rw [Maps.has_eq]
  by_cases hm : d ∈ L.map Prod.fst
  · rw [decide_eq_true hm]
    obtain ⟨x, hx, rfl⟩ := List.mem_map.1 hm
    exact List.any_eq_true.2 ⟨_, mem_MD.2 ⟨x, hx, rfl⟩, WideAt.sameKey_self (litD_key _)⟩
  · rw [decide_eq_false hm]
    refine List.any_eq_false.2 fun p hp hs => ?_
    obtain ⟨x, hx, rfl⟩ := mem_MD.1 hp
    exact hm (List.mem_map.2 ⟨x, hx, litD_inj (h.2 x hx) hd (WideAt.sameKey_eq hs)⟩)
theorem atKey_MD {L : List (Dt × α)} (h : OkL L) {d : Dt} {a : α} (hm : (d, a) ∈ L) (z : DataW Unit) : (MD R L).atKey (litD d) z = R a := by
  unfold MD
  simp only [DataW.atKey]
  have hd := h.2 _ hm
  have hin : enD R (d, a) ∈ (L.map (enD R)).foldr DataW.insert [] := mem_MD.2 ⟨_, hm, rfl⟩
  cases hf : ((L.map (enD R)).foldr DataW.insert []).find? fun p => p.1.sameKey (litD d) with
  | none =>
    have := List.find?_eq_none.1 hf _ hin
    exact absurd (WideAt.sameKey_self (litD_key d)) this
  | some p =>
    have h1 := List.find?_some hf
    obtain ⟨x, hx, rfl⟩ := mem_MD.1 (List.mem_of_find?_eq_some hf)
    have e : x.1 = d := litD_inj (h.2 x hx) hd (WideAt.sameKey_eq h1)
    have : x = (d, a) := by
      by_cases hxe : x = (d, a)
      · exact hxe
      · exact absurd e (apart_ne h hx hm hxe)
    subst this
    simp [enD]
theorem atKey_MD_none {L : List (Dt × α)} (h : OkL L) {d : Dt} (hd : OkD d) (hm : d ∉ L.map Prod.fst) (z : DataW Unit) : (MD R L).atKey (litD d) z = z := by
  unfold MD
  simp only [DataW.atKey]
  have hn : ((L.map (enD R)).foldr DataW.insert []).find? (fun p => p.1.sameKey (litD d)) = none := ?_
  · rw [hn]
  refine List.find?_eq_none.2 fun p hp hs => ?_
  obtain ⟨x, hx, rfl⟩ := mem_MD.1 hp
  exact hm (List.mem_map.2 ⟨x, hx, litD_inj (h.2 x hx) hd (WideAt.sameKey_eq hs)⟩)
end
end Go.Proofs.YtldfaaahmpncbaaGreat

namespace Go.Proofs.YtldfaaahmpncbaaGreat
open Go.RowKit
open CtxM
set_option linter.unusedVariables false
set_option linter.unusedSimpArgs false
set_option maxRecDepth 20000

theorem grown_cell {w w' : World} {g : Nat} {t : TypeId} {cs : Array Value} (h : Blk w g t cs) (hg : Grw w w') (k : Nat) (v : Value) (hv : cs[k]? = some v) : w'.cell? ⟨g, k, none⟩ = some v := by
  rw [(h.below hg.below h.lt).cell]; exact hv
theorem two_dots (w : World) (a b : Dt) :
    Blk ((w.alloc (.cells #[.int .i64 a.1, .int .u64 (a.2 : Int)] 41)).alloc (.cells #[.int .i64 b.1, .int .u64 (b.2 : Int)] 41)) w.heap.size 41 #[.int .i64 a.1, .int .u64 (a.2 : Int)] ∧
    Blk ((w.alloc (.cells #[.int .i64 a.1, .int .u64 (a.2 : Int)] 41)).alloc (.cells #[.int .i64 b.1, .int .u64 (b.2 : Int)] 41)) (w.heap.size + 1) 41 #[.int .i64 b.1, .int .u64 (b.2 : Int)] := by
  refine ⟨(Blk.new w _ _).alloc _, ?_⟩
  have := Blk.new (w.alloc (.cells #[.int .i64 a.1, .int .u64 (a.2 : Int)] 41)) 41 #[.int .i64 b.1, .int .u64 (b.2 : Int)]
  rwa [show (w.alloc (.cells #[.int .i64 a.1, .int .u64 (a.2 : Int)] 41)).heap.size = w.heap.size + 1 by simp] at this
set_option maxHeartbeats 1000000 in
theorem ointurn_any (a b : Dt) (w : World) : Calls Tryz.prog 92 #[.agg #[.int .i64 a.1, .int .u64 (a.2 : Int)], .agg #[.int .i64 b.1, .int .u64 (b.2 : Int)]] w fun e w' => e = .returned (.int .i64 (cD a b)) ∧ Grw w w' := by
  have hg0 := ((Grw.refl w).alloc (.cells #[.int .i64 a.1, .int .u64 (a.2 : Int)] 41)).alloc (.cells #[.int .i64 b.1, .int .u64 (b.2 : Int)] 41)
  obtain ⟨hA, hB⟩ := two_dots w a b
  obtain ⟨r, hr⟩ : ∃ r, r = cD a b := ⟨_, rfl⟩
  rw [← hr]
  have HR := Lib.hid hr
  clear hr
  go_enter Tryz.func92, Tryz.ntmps92
  go_upto_region 1 with fail
  generalize (w.alloc (.cells #[.int .i64 a.1, .int .u64 (a.2 : Int)] 41)).alloc (.cells #[.int .i64 b.1, .int .u64 (b.2 : Int)] 41) = w1 at hg0 hA hB ⊢
  have a0 : w1.cell? ⟨w.heap.size, 0, none⟩ = some (.int .i64 a.1) := by rw [hA.cell]; rfl
  have a1 : w1.cell? ⟨w.heap.size, 1, none⟩ = some (.int .u64 (a.2 : Int)) := by rw [hA.cell]; rfl
  have b0 : w1.cell? ⟨w.heap.size + 1, 0, none⟩ = some (.int .i64 b.1) := by rw [hB.cell]; rfl
  have b1 : w1.cell? ⟨w.heap.size + 1, 1, none⟩ = some (.int .u64 (b.2 : Int)) := by rw [hB.cell]; rfl
  have l1 := fun W => less_any a b W
  have l2 := fun W => less_any b a W
  have HL1 := Lib.hid (show Lt a b → cD a b = -1 from cD_low)
  have HL2 := Lib.hid (show Lt b a → cD a b = 1 from cD_high)
  have HL3 := Lib.hid (show ¬ Lt a b → ¬ Lt b a → cD a b = 0 from fun h k => by
    rcases Lt.tri a b with h1 | h1 | h1
    · exact absurd h1 h
    · rw [h1, cD, if_pos (cI_3 rfl), cI_3 rfl]
    · exact absurd h1 k)
  by_cases h : Lt a b
  · rw [decide_eq_true h] at l1
    have HH := Lib.hid h
    clear h l2
    go_wp2_with (go_at_call 117; refine (l1 _).mono ?_; rintro e w2 ⟨rfl, hg2⟩)
    go_ret
    exact ⟨by rw [HR.out, HL1.out HH.out]; rfl, hg0.trans hg2⟩
  · rw [decide_eq_false h] at l1
    have HH := Lib.hid h
    clear h
    go_upto_region 3 with (go_at_call 117; refine (l1 _).mono ?_; rintro e w2 ⟨rfl, hg2⟩)
    have c0 := grown_cell hA hg2 0 _ rfl
    have c1 := grown_cell hA hg2 1 _ rfl
    have d0 := grown_cell hB hg2 0 _ rfl
    have d1 := grown_cell hB hg2 1 _ rfl
    clear a0 a1 b0 b1 l1 hA hB
    by_cases k : Lt b a
    · rw [decide_eq_true k] at l2
      have KK := Lib.hid k
      clear k
      go_wp2_with (go_at_call 117; refine (l2 _).mono ?_; rintro e w3 ⟨rfl, hg3⟩)
      go_ret
      exact ⟨by rw [HR.out, HL2.out KK.out]; rfl, (hg0.trans hg2).trans hg3⟩
    · rw [decide_eq_false k] at l2
      have KK := Lib.hid k
      clear k
      go_wp2_with (go_at_call 117; refine (l2 _).mono ?_; rintro e w3 ⟨rfl, hg3⟩)
      go_ret
      exact ⟨by rw [HR.out, HL3.out HH.out KK.out]; rfl, (hg0.trans hg2).trans hg3⟩

/-- A dot's bucket. -/
noncomputable def bucketD (d : Dt) : Int := if May d then (((d.1.toNat * 7 + d.2) % 64 : Nat) : Int) else -1
set_option maxHeartbeats 1000000 in
theorem bucketOf_any (d : Dt) (w : World) : Calls Tryz.prog 26 #[.agg #[.int .i64 d.1, .int .u64 (d.2 : Int)]] w fun e w' => e = .returned (.int .i64 (bucketD d)) ∧ Grw w w' := by
  have hg0 := (Grw.refl w).alloc (.cells #[.int .i64 d.1, .int .u64 (d.2 : Int)] 41)
  have hA := Blk.new w 41 #[.int .i64 d.1, .int .u64 (d.2 : Int)]
  have hm := fun W => may_any d W
  go_enter Tryz.func26, Tryz.ntmps26
  go_upto_region 1 with fail
  generalize w.alloc (.cells #[.int .i64 d.1, .int .u64 (d.2 : Int)] 41) = w1 at hg0 hA ⊢
  have a0 : w1.cell? ⟨w.heap.size, 0, none⟩ = some (.int .i64 d.1) := by rw [hA.cell]; rfl
  have a1 : w1.cell? ⟨w.heap.size, 1, none⟩ = some (.int .u64 (d.2 : Int)) := by rw [hA.cell]; rfl
  by_cases h : May d
  · rw [decide_eq_true h] at hm
    have HH := Lib.hid h
    clear h
    go_upto_region 3 with (go_at_call 65; refine (hm _).mono ?_; rintro e w2 ⟨rfl, hg2⟩)
    have h := HH.out
    have hb : (d.2 : Int) ≤ 4611686018427387904 := by have := h.2.2.2; unfold top at this; omega
    have r1 := h.1
    have r2 := h.2.1
    obtain ⟨n, hn⟩ : ∃ n : Nat, d.1 = (n : Int) := ⟨d.1.toNat, by omega⟩
    have c0 := grown_cell hA hg2 0 _ rfl
    have c1 := grown_cell hA hg2 1 _ rfl
    rw [hn] at c0
    have hn16 : n ≤ 16 := by omega
    have HB := Lib.hid (show bucketD d = (((n * 7 + d.2) % 64 : Nat) : Int) by rw [bucketD, if_pos h, hn]; rfl)
    have w1_ : IntKind.u64.wrap (n : Int) = (n : Int) := by rw [IntKind.wrap_u64]; omega
    have w2_ : IntKind.u64.wrap ((n : Int) * 7) = (n : Int) * 7 := by rw [IntKind.wrap_u64]; omega
    have w3_ : IntKind.u64.wrap ((n : Int) * 7 + (d.2 : Int)) = (n : Int) * 7 + (d.2 : Int) := by rw [IntKind.wrap_u64]; omega
    clear a0 a1 hm hA hn r1 r2 h
    go_wp2
    go_ret
    refine ⟨?_, hg0.trans hg2⟩
    rw [HB.out]
    exact congrArg (fun z => Ending.returned (.int .i64 z)) (by omega)
  · rw [decide_eq_false h] at hm
    have HH := Lib.hid h
    clear h
    go_wp2_with (go_at_call 65; refine (hm _).mono ?_; rintro e w2 ⟨rfl, hg2⟩)
    go_ret
    exact ⟨by rw [bucketD, if_neg HH.out]; rfl, hg0.trans hg2⟩
/-- An item: its dot, its key, gone? -/
structure It where
  d : Dt
  t : ByteArray
  v : ByteArray
  g : Bool
def itc (i : It) : Array Value := #[.int .i64 i.d.1, .int .u64 (i.d.2 : Int), .string i.t, .string i.v, .bool i.g]
/-- May it be? -/
noncomputable def itB (i : It) : Bool := decide (May i.d) && (if i.g = true then decide (i.t = ⟨#[]⟩ ∧ i.v = ⟨#[]⟩) else nameB i.t && nameB i.v)
theorem bytes_eq (a b : ByteArray) : (a.toList == b.toList) = decide (a = b) := by
  rw [Bool.eq_iff_iff, beq_iff_eq, decide_eq_true_iff]
  constructor
  · intro h
    rw [ByteArray.toList_eq, ByteArray.toList_eq] at h
    exact ByteArray.ext (Array.toList_inj.mp h)
  · rintro rfl; rfl
/-- Two keys compared. -/
theorem key_eq (a b c d : ByteArray) (w : World) : (Op.equalIn 10000 39 (.agg #[.string a, .string b]) (.agg #[.string c, .string d])).run Tryz.prog w = .ok (decide (a = c ∧ b = d)) w := by
  have us := Tryz.underlying9
  have as_ := Tryz.isAgg9
  have zs := Tryz.sizeOf9
  have hS : Tryz.prog.underlying 39 = some (.struct (Tryz.prog.fieldsOf 39)) := by kernel_rfl
  have hp : Tryz.prog.stoodInHeld 39 = false := by kernel_rfl
  rw [show (10000 : Nat) = 9999 + 1 from rfl, run_equalIn_agg w 9999 39 _ _ hS hp]
  simp only [Program.fieldsOf, Tryz.underlying39]
  go_simp
  have f : ∀ x y : ByteArray, x.toList = y.toList ↔ x = y := fun x y => by rw [← beq_iff_eq, bytes_eq, decide_eq_true_iff]
  by_cases h1 : a = c <;> by_cases h2 : b = d <;> simp [f, h1, h2]
section
variable {w : World} {g : Nat} {t : TypeId} {i : It}
theorem it_0 (h : Blk w g t (itc i)) : w.cell? ⟨g, 0, none⟩ = some (.int .i64 i.d.1) := by rw [h.cell]; rfl
theorem it_1 (h : Blk w g t (itc i)) : w.cell? ⟨g, 1, none⟩ = some (.int .u64 (i.d.2 : Int)) := by rw [h.cell]; rfl
theorem it_2 (h : Blk w g t (itc i)) : w.cell? ⟨g, 2, none⟩ = some (.string i.t) := by rw [h.cell]; rfl
theorem it_3 (h : Blk w g t (itc i)) : w.cell? ⟨g, 3, none⟩ = some (.string i.v) := by rw [h.cell]; rfl
theorem it_4 (h : Blk w g t (itc i)) : w.cell? ⟨g, 4, none⟩ = some (.bool i.g) := by rw [h.cell]; rfl
end
set_option maxHeartbeats 2000000 in
theorem omay_any (i : It) (w : World) : Calls Tryz.prog 72 #[.agg (itc i)] w fun e w' => e = .returned (.bool (itB i)) ∧ Grw w w' := by
  have hg0 := (Grw.refl w).alloc (.cells (itc i) 48)
  have hA := Blk.new w 48 (itc i)
  have HE : Hid (itB i = (decide (May i.d) && (if i.g = true then decide (i.t = ⟨#[]⟩ ∧ i.v = ⟨#[]⟩) else nameB i.t && nameB i.v))) := Lib.hid rfl
  have hm := fun W => may_any i.d W
  generalize itB i = eb at HE ⊢
  go_enter Tryz.func72, Tryz.ntmps72
  go_upto_region 1 with fail
  generalize w.alloc (.cells (itc i) 48) = w1 at hg0 hA ⊢
  have a0 := it_0 hA
  have a1 := it_1 hA
  have a4 := it_4 hA
  obtain ⟨m, hmm⟩ : ∃ m, m = decide (May i.d) := ⟨_, rfl⟩
  rw [← hmm] at hm
  have HM := Lib.hid hmm
  clear hmm
  cases hgg : i.g with
  | true =>
    rw [hgg] at a4
    have HG := Lib.hid hgg
    clear hgg
    have hk := fun W => key_eq i.t i.v ⟨#[]⟩ ⟨#[]⟩ W
    obtain ⟨q, hq⟩ : ∃ q, q = decide (i.t = ⟨#[]⟩ ∧ i.v = ⟨#[]⟩) := ⟨_, rfl⟩
    rw [← hq] at hk
    have HQ := Lib.hid hq
    clear hq
    cases m
    · go_wp2_with (go_at_call 65; refine (hm _).mono ?_; rintro e w2 ⟨rfl, hg2⟩)
      go_ret
      exact ⟨by rw [HE.out, ← HM.out]; rfl, hg0.trans hg2⟩
    · go_wp2_with (go_at_call 65; refine (hm _).mono ?_; rintro e w2 ⟨rfl, hg2⟩; have hA2 := hA.below hg2.below hA.lt; have c2 := it_2 hA2; have c3 := it_3 hA2)
      go_ret
      exact ⟨by rw [HE.out, ← HM.out, HG.out, HQ.out]; simp, hg0.trans hg2⟩
  | false =>
    rw [hgg] at a4
    have HG := Lib.hid hgg
    clear hgg
    have hk := fun W => mayKey_any i.t i.v W
    obtain ⟨q, hq⟩ : ∃ q, q = (nameB i.t && nameB i.v) := ⟨_, rfl⟩
    rw [← hq] at hk
    have HQ := Lib.hid hq
    clear hq
    cases m
    · go_wp2_with (go_at_call 65; refine (hm _).mono ?_; rintro e w2 ⟨rfl, hg2⟩)
      go_ret
      exact ⟨by rw [HE.out, ← HM.out]; rfl, hg0.trans hg2⟩
    · go_wp2_with (first | (go_at_call 65; refine (hm _).mono ?_; rintro e w2 ⟨rfl, hg2⟩; have hA2 := hA.below hg2.below hA.lt; have c2 := it_2 hA2; have c3 := it_3 hA2) | (go_at_call 20; refine (hk _).mono ?_; rintro e w3 ⟨rfl, hg3⟩))
      go_ret
      exact ⟨by rw [HE.out, ← HM.out, HG.out, HQ.out]; simp, (hg0.trans hg2).trans hg3⟩
/-- The document's Name. -/
theorem rname_any (s : ByteArray) (w : World) : Calls Tryz.prog 21 #[.string s] w fun e w' => e = .returned (.bool (nameB s)) ∧ w' = w := by
  go_enter Tryz.func21, Tryz.ntmps21
  go_wp2
  all_goals go_ret
  all_goals refine ⟨congrArg (fun b => Ending.returned (.bool b)) ?_, rfl⟩
  · exact name_4 (by assumption)
  · exact (name_1 (by omega)).symm
set_option maxHeartbeats 2000000 in
theorem ritem_any (i : It) (w : World) : Calls Tryz.prog 33 #[.agg (itc i)] w fun e w' => e = .returned (.bool (itB i)) ∧ Grw w w' := by
  have hg0 := (Grw.refl w).alloc (.cells (itc i) 48)
  have hA := Blk.new w 48 (itc i)
  have HE : Hid (itB i = (decide (May i.d) && (if i.g = true then decide (i.t = ⟨#[]⟩ ∧ i.v = ⟨#[]⟩) else nameB i.t && nameB i.v))) := Lib.hid rfl
  have hm := fun W => refMay_any i.d W
  generalize itB i = eb at HE ⊢
  go_enter Tryz.func33, Tryz.ntmps33
  go_upto_region 1 with fail
  generalize w.alloc (.cells (itc i) 48) = w1 at hg0 hA ⊢
  have a0 := it_0 hA
  have a1 := it_1 hA
  have a4 := it_4 hA
  obtain ⟨m, hmm⟩ : ∃ m, m = decide (May i.d) := ⟨_, rfl⟩
  rw [← hmm] at hm
  have HM := Lib.hid hmm
  clear hmm
  cases hgg : i.g with
  | true =>
    rw [hgg] at a4
    have HG := Lib.hid hgg
    clear hgg
    have hk := fun W => key_eq i.t i.v ⟨#[]⟩ ⟨#[]⟩ W
    obtain ⟨q, hq⟩ : ∃ q, q = decide (i.t = ⟨#[]⟩ ∧ i.v = ⟨#[]⟩) := ⟨_, rfl⟩
    rw [← hq] at hk
    have HQ := Lib.hid hq
    clear hq
    cases m
    · go_wp2_with (go_at_call 23; refine (hm _).mono ?_; rintro e w2 ⟨rfl, hg2⟩)
      go_ret
      exact ⟨by rw [HE.out, ← HM.out]; rfl, hg0.trans hg2⟩
    · go_wp2_with (go_at_call 23; refine (hm _).mono ?_; rintro e w2 ⟨rfl, hg2⟩; have hA2 := hA.below hg2.below hA.lt; have c2 := it_2 hA2; have c3 := it_3 hA2)
      go_ret
      exact ⟨by rw [HE.out, ← HM.out, HG.out, HQ.out]; simp, hg0.trans hg2⟩
  | false =>
    rw [hgg] at a4
    have HG := Lib.hid hgg
    clear hgg
    obtain ⟨nb, hnb, hN⟩ : ∃ nb : ByteArray → Bool, nb = nameB ∧ ∀ s W, Calls Tryz.prog 21 #[.string s] W fun e w' => e = .returned (.bool (nb s)) ∧ w' = W := ⟨nameB, rfl, rname_any⟩
    have HN := Lib.hid hnb
    clear hnb
    cases m
    · go_wp2_with (go_at_call 23; refine (hm _).mono ?_; rintro e w2 ⟨rfl, hg2⟩)
      go_ret
      exact ⟨by rw [HE.out, ← HM.out]; rfl, hg0.trans hg2⟩
    · cases hb : nb i.t
      · go_wp2_with (first | (go_at_call 23; refine (hm _).mono ?_; rintro e w2 ⟨rfl, hg2⟩; have hA2 := hA.below hg2.below hA.lt; have c2 := it_2 hA2; have c3 := it_3 hA2) | (go_at_call 21; refine (hN _ _).mono ?_; rintro e w3 ⟨rfl, rfl⟩; try rw [hb]))
        go_ret
        exact ⟨by rw [HE.out, ← HM.out, HG.out, ← HN.out, hb]; simp, hg0.trans hg2⟩
      · go_wp2_with (first | (go_at_call 23; refine (hm _).mono ?_; rintro e w2 ⟨rfl, hg2⟩; have hA2 := hA.below hg2.below hA.lt; have c2 := it_2 hA2; have c3 := it_3 hA2) | (go_at_call 21; refine (hN _ _).mono ?_; rintro e w3 ⟨rfl, rfl⟩; try rw [hb]))
        go_ret
        exact ⟨by rw [HE.out, ← HM.out, HG.out, ← HN.out, hb]; simp, hg0.trans hg2⟩
end Go.Proofs.YtldfaaahmpncbaaGreat

namespace Go.Proofs.YtldfaaahmpncbaaGreat
open Go.Maps Go.WideShapes Go.WideMaps
open Go.RowKit
open CtxM
set_option linter.unusedVariables false
set_option linter.unusedSimpArgs false
set_option maxRecDepth 20000

/-- A key: its topic and its device. -/
abbrev Ky := ByteArray × ByteArray
abbrev Kl := List (Dt × Ky)
abbrev Tl := List (Dt × Unit)
/-- A key as a value, and as a map's element reads. -/
def keyV (k : Ky) : Value := .agg #[.string k.1, .string k.2]
def keyD (k : Ky) : DataW Unit := .agg [.lit (.string k.1.data.toList), .lit (.string k.2.data.toList)]
def keyR : Value → Option (DataW Unit × List MemPlace)
  | .agg ⟨[.string t, .string v]⟩ => some (keyD (t, v), [])
  | _ => none
theorem keyR_mk (k : Ky) : keyR (keyV k) = some (keyD k, []) := rfl
theorem keyR_inv {v : Value} {y : DataW Unit × List MemPlace} (h : keyR v = some y) : ∃ k, v = keyV k ∧ y = (keyD k, []) := by
  unfold keyR at h
  split at h
  · injection h with h; exact ⟨(_, _), rfl, h.symm⟩
  · cases h
theorem bytes_inj {a b : ByteArray} (h : a.data.toList = b.data.toList) : a = b := ByteArray.ext (Array.toList_inj.mp h)
theorem keyD_inj {a b : Ky} (h : keyD a = keyD b) : a = b := by
  obtain ⟨a1, a2⟩ := a
  obtain ⟨b1, b2⟩ := b
  simp only [keyD, DataW.agg.injEq, List.cons.injEq, DataW.lit.injEq, Lit.string.injEq, and_true] at h
  rw [bytes_inj h.1, bytes_inj h.2]
def unD (_ : Unit) : DataW Unit := .agg []
/-- A dot's key in the list of the live ones; else the empty one. -/
def keyAt : Kl → Dt → Ky
  | [], _ => (⟨#[]⟩, ⟨#[]⟩)
  | p :: K, d => if p.1 = d then p.2 else keyAt K d
theorem keyAt_none {K : Kl} {d : Dt} (h : d ∉ K.map Prod.fst) : keyAt K d = (⟨#[]⟩, ⟨#[]⟩) := by
  induction K with
  | nil => rfl
  | cons p K ih =>
    simp only [List.map_cons, List.mem_cons, not_or] at h
    rw [keyAt, if_neg (fun e => h.1 e.symm), ih h.2]
theorem keyAt_mem {K : Kl} {d : Dt} (h : d ∈ K.map Prod.fst) : (d, keyAt K d) ∈ K := by
  induction K with
  | nil => cases h
  | cons p K ih =>
    by_cases e : p.1 = d
    · rw [keyAt, if_pos e, ← e]; exact List.mem_cons_self
    · rw [keyAt, if_neg e]
      simp only [List.map_cons, List.mem_cons] at h
      exact List.mem_cons_of_mem _ (ih (h.resolve_left (fun h => e h.symm)))
/-- The two maps, in blocks b1 and b2: K the live dots, T the tombstones, both in any order. -/
structure Ma (w : World) (b1 b2 : Nat) (K : Kl) (T : Tl) : Prop where
  live : w.ownsMap Tryz.prog 41 keyR b1 K.length (MD keyD K)
  tomb : w.ownsMap Tryz.prog 41 unitElem b2 T.length (MD unD T)
  okl : OkL K
  okt : OkL T
  ne : b1 ≠ b2
theorem zeroKey (w : World) : (zeroValue 39).run Tryz.prog w = .ok (keyV (⟨#[]⟩, ⟨#[]⟩)) w := by kernel_rfl
theorem zeroUnit (w : World) : (zeroValue 93).run Tryz.prog w = .ok (.agg #[]) w := by kernel_rfl
section
variable {w w' : World} {b1 b2 : Nat} {K : Kl} {T : Tl}
theorem Ma.lookL (h : Ma w b1 b2 K T) {d : Dt} (hd : OkD d) : (Instr.lookup 81 (.map (some b1)) (dval d) true).run Tryz.prog w = .ok (.tuple #[keyV (keyAt K d), .bool (decide (d ∈ K.map Prod.fst))]) w := by
  obtain ⟨v, ps, hrun, hv⟩ := h.live.look_ok dotK Tryz.underlying81 (zeroKey w) (keyR_mk _) (keyOf_dot hd)
  rw [has_MD h.okl hd] at hrun
  obtain ⟨k, rfl, e⟩ := keyR_inv hv
  injection e with e _
  have : k = keyAt K d := by
    by_cases hm : d ∈ K.map Prod.fst
    · rw [atKey_MD h.okl (keyAt_mem hm)] at e
      exact (keyD_inj e).symm
    · rw [atKey_MD_none h.okl hd hm] at e
      rw [keyAt_none hm]
      exact (keyD_inj e).symm
  rw [hrun, this]
theorem Ma.lookT (h : Ma w b1 b2 K T) {d : Dt} (hd : OkD d) : (Instr.lookup 82 (.map (some b2)) (dval d) true).run Tryz.prog w = .ok (.tuple #[.agg #[], .bool (decide (d ∈ T.map Prod.fst))]) w := by
  obtain ⟨v, ps, hrun, hv⟩ := h.tomb.look_ok dotK Tryz.underlying82 (zeroUnit w) unitElem_mk (keyOf_dot hd)
  rw [has_MD h.okt hd] at hrun
  obtain ⟨rfl, _⟩ := unitElem_inv hv
  exact hrun
theorem Ma.lenL (h : Ma w b1 b2 K T) (ty : TypeId) : (Builtin.len_ #[81] ty #[.map (some b1)]).run Tryz.prog w = .ok (.int .i64 (K.length : Int)) w := by
  rw [h.live.len Tryz.underlying81 ty, size_MD]
theorem Ma.lenT (h : Ma w b1 b2 K T) (ty : TypeId) : (Builtin.len_ #[82] ty #[.map (some b2)]).run Tryz.prog w = .ok (.int .i64 (T.length : Int)) w := by
  rw [h.tomb.len Tryz.underlying82 ty, size_MD]
theorem ownsMap_exact_ {H : Type} {w : World} {P : Program} {k : TypeId} {R : Value → Option (DataW H × List MemPlace)} {b n : Nat} {D : DataW H} (h : w.ownsMap P k R b n D) : w.ownsMap P k R b (Maps.size D) D := by
  obtain ⟨es, clock, hb, F, hs, rfl⟩ := h
  exact ⟨es, clock, hb, F, by simp [Maps.size, length_sorted], rfl⟩
theorem Ma.kept (h : Ma w b1 b2 K T) {row : Option Nat} (hg : w.grownBy w' row) (h1 : some b1 ≠ row) (h2 : some b2 ≠ row) : Ma w' b1 b2 K T :=
  ⟨h.live.kept hg h1, h.tomb.kept hg h2, h.okl, h.okt, h.ne⟩
theorem Ma.alloc (h : Ma w b1 b2 K T) (o : Obj) : Ma (w.alloc o) b1 b2 K T := ⟨h.live.alloc o, h.tomb.alloc o, h.okl, h.okt, h.ne⟩
/-- A dot made live. -/
theorem Ma.putL (h : Ma w b1 b2 K T) {d : Dt} (hd : OkD d) (k : Ky) (hn : K.length < maxLen) : ∃ w', (Instr.mapUpdate 81 (.map (some b1)) (dval d) (keyV k)).run Tryz.prog w = .ok () w' ∧ Ma w' b1 b2 ((d, k) :: butD d K) T ∧ w.grownBy w' (some b1) := by
  obtain ⟨w', hrun, ho, hg⟩ := h.live.update dotK Tryz.underlying81 hn (keyOf_dot hd) (keyR_mk k)
  rw [put_MD h.okl hd k] at ho
  have ho := ownsMap_exact_ ho
  rw [size_MD] at ho
  exact ⟨w', hrun, ⟨ho, h.tomb.kept hg (by intro e; injection e with e; exact h.ne e.symm), h.okl.put hd k, h.okt, h.ne⟩, hg⟩
/-- A dot made a tombstone. -/
theorem Ma.putT (h : Ma w b1 b2 K T) {d : Dt} (hd : OkD d) (hn : T.length < maxLen) : ∃ w', (Instr.mapUpdate 82 (.map (some b2)) (dval d) (.agg #[])).run Tryz.prog w = .ok () w' ∧ Ma w' b1 b2 K ((d, ()) :: butD d T) ∧ w.grownBy w' (some b2) := by
  obtain ⟨w', hrun, ho, hg⟩ := h.tomb.update dotK Tryz.underlying82 hn (keyOf_dot hd) unitElem_mk
  rw [show (DataW.agg [] : DataW Unit) = unD () from rfl, put_MD h.okt hd ()] at ho
  have ho := ownsMap_exact_ ho
  rw [size_MD] at ho
  exact ⟨w', hrun, ⟨h.live.kept hg (by intro e; injection e with e; exact h.ne e), ho, h.okl, h.okt.put hd (), h.ne⟩, hg⟩
/-- A live dot taken out. -/
theorem Ma.delL (h : Ma w b1 b2 K T) {d : Dt} (hd : OkD d) (ty : TypeId) : ∃ w', (Builtin.delete_ #[81, 41] ty #[.map (some b1), dval d]).run Tryz.prog w = .ok (.tuple #[]) w' ∧ Ma w' b1 b2 (butD d K) T ∧ w.grownBy w' (some b1) := by
  obtain ⟨w', hrun, ho, hg⟩ := h.live.drop dotK Tryz.underlying81 (keyOf_dot hd) ty
  rw [del_MD h.okl hd] at ho
  have ho := ownsMap_exact_ ho
  rw [size_MD] at ho
  exact ⟨w', hrun, ⟨ho, h.tomb.kept hg.grown (by intro e; injection e with e; exact h.ne e.symm), h.okl.but d, h.okt, h.ne⟩, hg.grown⟩
/-- A tombstone taken out. -/
theorem Ma.delT (h : Ma w b1 b2 K T) {d : Dt} (hd : OkD d) (ty : TypeId) : ∃ w', (Builtin.delete_ #[82, 41] ty #[.map (some b2), dval d]).run Tryz.prog w = .ok (.tuple #[]) w' ∧ Ma w' b1 b2 K (butD d T) ∧ w.grownBy w' (some b2) := by
  obtain ⟨w', hrun, ho, hg⟩ := h.tomb.drop dotK Tryz.underlying82 (keyOf_dot hd) ty
  rw [del_MD h.okt hd] at ho
  have ho := ownsMap_exact_ ho
  rw [size_MD] at ho
  exact ⟨w', hrun, ⟨h.live.kept hg.grown (by intro e; injection e with e; exact h.ne e), ho, h.okl, h.okt.but d, h.ne⟩, hg.grown⟩
end
end Go.Proofs.YtldfaaahmpncbaaGreat

namespace Go.Proofs.YtldfaaahmpncbaaGreat
open Go.Maps Go.WideShapes Go.WideMaps
open Go.RowKit
open CtxM
set_option linter.unusedVariables false
set_option linter.unusedSimpArgs false
set_option maxRecDepth 20000

theorem ownsMap_below {H : Type} {w w' : World} {P : Program} {k : TypeId} {R : Value → Option (DataW H × List MemPlace)} {b n : Nat} {D : DataW H} (h : w.ownsMap P k R b n D) (hb : Below w.heap.size w w') : w'.ownsMap P k R b n D := by
  have hlt := h.lt
  obtain ⟨es, clock, hh, F, hs, hD⟩ := h
  exact ⟨es, clock, (hb.block b hlt).trans hh, F, hs, hD⟩
theorem Ma.below {w w' : World} {b1 b2 : Nat} {K : Kl} {T : Tl} (h : Ma w b1 b2 K T) (hb : Below w.heap.size w w') : Ma w' b1 b2 K T := ⟨ownsMap_below h.live hb, ownsMap_below h.tomb hb, h.okl, h.okt, h.ne⟩
/-- A set's three cells. -/
def osc (g b1 b2 : Nat) : Array Value := #[.pointer (some ⟨g, 0, none⟩), .map (some b1), .map (some b2)]
/-- A set at p: its context at g, its maps in b1 and b2. -/
structure Os (w : World) (p g : Nat) (v : Value) (V : List Nat) (X : List Dt) (b1 b2 : Nat) (K : Kl) (T : Tl) : Prop where
  blk : Blk w p 84 (osc g b1 b2)
  cx : Cx w g v V X
  ma : Ma w b1 b2 K T
  far : ∀ i, Foot g v i → i ≠ b1 ∧ i ≠ b2
  farP : p ≠ b1 ∧ p ≠ b2
section
variable {w w' : World} {p g : Nat} {v : Value} {V : List Nat} {X : List Dt} {b1 b2 : Nat} {K : Kl} {T : Tl}
theorem Os.below (h : Os w p g v V X b1 b2 K T) (hb : Below w.heap.size w w') : Os w' p g v V X b1 b2 K T :=
  ⟨h.blk.below hb h.blk.lt, h.cx.kept (S := fun _ => False) (Keep.of_below hb) (fun _ _ h => h), h.ma.below hb, h.far, h.farP⟩
/-- The maps alone have turned. -/
theorem Os.turned (h : Os w p g v V X b1 b2 K T) (k : Keep (fun i => i = b1 ∨ i = b2) w w') {K' : Kl} {T' : Tl} (m : Ma w' b1 b2 K' T') : Os w' p g v V X b1 b2 K' T' :=
  ⟨h.blk.kept k (fun e => e.elim h.farP.1 h.farP.2), h.cx.kept k (fun i hi e => e.elim (h.far i hi).1 (h.far i hi).2), m, h.far, h.farP⟩
theorem Ma.lt (h : Ma w b1 b2 K T) : b1 < w.heap.size ∧ b2 < w.heap.size := ⟨h.live.lt, h.tomb.lt⟩
theorem Os.c0 (h : Os w p g v V X b1 b2 K T) : w.cell? ⟨p, 0, none⟩ = some (.pointer (some ⟨g, 0, none⟩)) := by rw [h.blk.cell]; rfl
theorem Os.c1 (h : Os w p g v V X b1 b2 K T) : w.cell? ⟨p, 1, none⟩ = some (.map (some b1)) := by rw [h.blk.cell]; rfl
theorem Os.c2 (h : Os w p g v V X b1 b2 K T) : w.cell? ⟨p, 2, none⟩ = some (.map (some b2)) := by rw [h.blk.cell]; rfl
theorem onone_any (h : Os w p g v V X b1 b2 K T) : Calls Tryz.prog 48 #[.pointer (some ⟨p, 0, none⟩)] w fun e w' => e = .returned (.bool false) ∧ w' = w := by
  have h0 := h.c0
  go_enter Tryz.func48, Tryz.ntmps48
  go_wp2
  go_ret
  exact ⟨rfl, rfl⟩
theorem onone_nil (w : World) : Calls Tryz.prog 48 #[.pointer none] w fun e w' => e = .returned (.bool true) ∧ w' = w := by
  go_enter Tryz.func48, Tryz.ntmps48
  go_wp2
  go_ret
  exact ⟨rfl, rfl⟩
set_option maxHeartbeats 2000000 in
theorem otoo_any (h : Os w p g v V X b1 b2 K T) (hK : K.length ≤ 1000000000) (hT : T.length ≤ 1000000000) : Calls Tryz.prog 75 #[.pointer (some ⟨p, 0, none⟩)] w fun e w' => e = .returned (.bool (decide (1024 < K.length ∨ 4096 < K.length + T.length))) ∧ Grw w w' := by
  have hfo : Tryz.prog.follows .mixedOrders = true := by kernel_rfl
  have HD : Hid (∀ b, b = decide (1024 < K.length ∨ 4096 < K.length + T.length) ↔ (b = true ↔ (1024 < K.length ∨ 4096 < K.length + T.length))) := Lib.hid fun b => by rw [Bool.eq_iff_iff, decide_eq_true_iff]
  obtain ⟨r, hr⟩ : ∃ r, r = decide (1024 < K.length ∨ 4096 < K.length + T.length) := ⟨_, rfl⟩
  rw [← hr]
  have HR := Lib.hid hr
  clear hr
  go_enter Tryz.func75, Tryz.ntmps75
  go_upto_region 1 with fail
  by_cases h1 : 1024 < K.length
  · have k1 : decide ((1024 : Int) < (K.length : Int)) = true := decide_eq_true (by omega)
    have e1 : r = true := ((HD.out r).1 HR.out).2 (.inl h1)
    have H1 := Lib.hid h1
    clear h1
    subst e1
    have q1 : ∀ n os, (Go.Sort.grow (w.drewN n) os).cell? ⟨p, 1, none⟩ = some (.map (some b1)) := fun n os => (h.below (Grw.below ⟨n, os, rfl⟩)).c1
    have q2 : ∀ n os, (Go.Sort.grow (w.drewN n) os).cell? ⟨p, 2, none⟩ = some (.map (some b2)) := fun n os => (h.below (Grw.below ⟨n, os, rfl⟩)).c2
    have l1 := fun n os ty => (h.below (Grw.below ⟨n, os, rfl⟩) : Os (Go.Sort.grow (w.drewN n) os) p g v V X b1 b2 K T).ma.lenL ty
    have l2 := fun n os ty => (h.below (Grw.below ⟨n, os, rfl⟩) : Os (Go.Sort.grow (w.drewN n) os) p g v V X b1 b2 K T).ma.lenT ty
    refine wp_region_quiet_grown (by assumption) (by kernel_rfl) ?_
    repeat (first | go_big_quiet_skip | go_big_quiet_step (fail))
    refine wpQuiet_nil ?_
    rintro _ ⟨⟨nq, osq⟩, rfl⟩
    go_wp2
    go_ret
    exact ⟨rfl, ⟨nq, osq, rfl⟩⟩
  · have k1 : decide ((1024 : Int) < (K.length : Int)) = false := decide_eq_false (by omega)
    have hw : IntKind.i64.wrap ((K.length : Int) + (T.length : Int)) = (K.length : Int) + (T.length : Int) := by rw [IntKind.wrap_i64]; omega
    have e1 : decide ((4096 : Int) < (K.length : Int) + (T.length : Int)) = r := by
      rw [HR.out]
      exact decide_eq_decide.2 ⟨fun h => .inr (by omega), fun h => by omega⟩
    have H1 := Lib.hid h1
    clear h1
    have q1 : ∀ n os, (Go.Sort.grow (w.drewN n) os).cell? ⟨p, 1, none⟩ = some (.map (some b1)) := fun n os => (h.below (Grw.below ⟨n, os, rfl⟩)).c1
    have q2 : ∀ n os, (Go.Sort.grow (w.drewN n) os).cell? ⟨p, 2, none⟩ = some (.map (some b2)) := fun n os => (h.below (Grw.below ⟨n, os, rfl⟩)).c2
    have l1 := fun n os ty => (h.below (Grw.below ⟨n, os, rfl⟩) : Os (Go.Sort.grow (w.drewN n) os) p g v V X b1 b2 K T).ma.lenL ty
    have l2 := fun n os ty => (h.below (Grw.below ⟨n, os, rfl⟩) : Os (Go.Sort.grow (w.drewN n) os) p g v V X b1 b2 K T).ma.lenT ty
    refine wp_region_quiet_grown (by assumption) (by kernel_rfl) ?_
    repeat (first | go_big_quiet_skip | go_big_quiet_step (fail))
    refine wpQuiet_nil ?_
    rintro _ ⟨⟨nq, osq⟩, rfl⟩
    go_wp2
    go_ret
    exact ⟨rfl, ⟨nq, osq, rfl⟩⟩
end
end Go.Proofs.YtldfaaahmpncbaaGreat

namespace Go.Proofs.YtldfaaahmpncbaaGreat
open Go.Maps Go.WideShapes Go.WideMaps
open Go.RowKit
open CtxM
set_option linter.unusedVariables false
set_option linter.unusedSimpArgs false
set_option maxRecDepth 20000

section
variable {w w' : World} {p g : Nat} {v : Value} {V : List Nat} {X : List Dt} {b1 b2 : Nat} {K : Kl} {T : Tl}
set_option maxHeartbeats 4000000 in
theorem okeeps_any (h : Os w p g v V X b1 b2 K T) (d : Dt) (hd : OkD d) : Calls Tryz.prog 73 #[.pointer (some ⟨p, 0, none⟩), .agg #[.int .i64 d.1, .int .u64 (d.2 : Int)]] w fun e w' => e = .returned (.bool (decide (d ∈ K.map Prod.fst) || decide (d ∈ T.map Prod.fst))) ∧ Below w.heap.size w w' := by
  have hfo : Tryz.prog.follows .mixedOrders = true := by kernel_rfl
  obtain ⟨r1, hr1⟩ : ∃ r, r = decide (d ∈ K.map Prod.fst) := ⟨_, rfl⟩
  obtain ⟨r2, hr2⟩ : ∃ r, r = decide (d ∈ T.map Prod.fst) := ⟨_, rfl⟩
  obtain ⟨kt, kv, hk⟩ : ∃ a b, keyAt K d = (a, b) := ⟨_, _, rfl⟩
  have L1 : ∀ W, Os W p g v V X b1 b2 K T → (Instr.lookup 81 (.map (some b1)) (.agg #[.int .i64 d.1, .int .u64 (d.2 : Int)]) true).run Tryz.prog W = .ok (.tuple #[.agg #[.string kt, .string kv], .bool r1]) W := fun W hW => by
    have := hW.ma.lookL hd
    rw [hk, ← hr1] at this
    exact this
  have L2 : ∀ W, Os W p g v V X b1 b2 K T → (Instr.lookup 82 (.map (some b2)) (.agg #[.int .i64 d.1, .int .u64 (d.2 : Int)]) true).run Tryz.prog W = .ok (.tuple #[.agg #[], .bool r2]) W := fun W hW => by
    have := hW.ma.lookT hd
    rw [← hr2] at this
    exact this
  rw [← hr1, ← hr2]
  clear hr1 hr2 hk
  have h1 := h.below ((Below.refl _ _).alloc (Nat.le_refl _) (.cells #[.int .i64 d.1, .int .u64 (d.2 : Int)] 41))
  have hB := Blk.new w 41 #[.int .i64 d.1, .int .u64 (d.2 : Int)]
  have hb1 : Below w.heap.size w (w.alloc (.cells #[.int .i64 d.1, .int .u64 (d.2 : Int)] 41)) := (Below.refl _ _).alloc (Nat.le_refl _) _
  go_enter Tryz.func73, Tryz.ntmps73
  go_upto_region 1 with fail
  generalize w.alloc (.cells #[.int .i64 d.1, .int .u64 (d.2 : Int)] 41) = w1 at h1 hB hb1 ⊢
  clear h
  refine wp_region_held_drew (S := fun X => Below w1.drew.heap.size w1.drew X) hfo (Below.refl _ _) (fun hS0 => ?_)
  have hZ : Os w1.drew p g v V X b1 b2 K T := h1.below (Below.refl _ _).drew
  have hBZ : Blk w1.drew w.heap.size 41 #[.int .i64 d.1, .int .u64 (d.2 : Int)] := hB
  have hbZ : Below w.heap.size w w1.drew := hb1.drew
  clear h1 hB hb1
  generalize w1.drew = Z0 at hS0 hZ hBZ hbZ ⊢
  refine' wpAnyH_take (i := 0) (oi := ⟨some 10, _, _, _, _, _⟩) (v := _) rfl (by kernel_rfl) (by kernel_rfl) (by kernel_rfl) (fun _ _ _ h => h) (Or.inl ⟨by rfl, ?y0a⟩) hS0 ?r0a
  case y0a => (intro w' hSw; go_simp; try rfl)
  try simp only [Act.put, List.setIfInBounds_toArray, List.set_cons_zero, List.set_cons_succ]
  refine' wpAnyH_take (i := 1) (oi := ⟨some 11, _, _, _, _, _⟩) (v := _) rfl (by kernel_rfl) (by kernel_rfl) (by kernel_rfl) (fun _ _ _ h => h) (Or.inl ⟨by rfl, ?y1a⟩) hS0 ?r1a
  case y1a => (intro w' hSw; go_simp; try rfl)
  try simp only [Act.put, List.setIfInBounds_toArray, List.set_cons_zero, List.set_cons_succ]
  refine' wpAnyH_take (i := 2) (oi := ⟨some 12, _, _, _, _, _⟩) (v := _) rfl (by kernel_rfl) (by kernel_rfl) (by kernel_rfl) (fun _ _ _ h => h) (Or.inl ⟨by rfl, ?y2a⟩) hS0 ?r2a
  case y2a => (intro w' hSw; go_simp; try rfl)
  try simp only [Act.put, List.setIfInBounds_toArray, List.set_cons_zero, List.set_cons_succ]
  refine' wpAnyH_take (i := 3) (oi := ⟨some 13, _, _, _, _, _⟩) (v := _) rfl (by kernel_rfl) (by kernel_rfl) (by kernel_rfl) (fun _ _ _ h => h) (Or.inl ⟨by rfl, ?y3a⟩) hS0 ?r3a
  case y3a => (intro w' hSw; have hO := hZ.below hSw; have q1 := hO.c1; have q2 := hO.c2; have q3 := L1 _ hO; have q4 := L2 _ hO; have hD := hBZ.below hSw hBZ.lt; have d0 : w'.cell? ⟨w.heap.size, 0, none⟩ = some (.int .i64 d.1) := (by rw [hD.cell]; rfl); have d1 : w'.cell? ⟨w.heap.size, 1, none⟩ = some (.int .u64 (d.2 : Int)) := (by rw [hD.cell]; rfl); go_simp; try rfl)
  try simp only [Act.put, List.setIfInBounds_toArray, List.set_cons_zero, List.set_cons_succ]
  refine' wpAnyH_take (i := 4) (oi := ⟨some 14, _, _, _, _, _⟩) (v := _) rfl (by kernel_rfl) (by kernel_rfl) (by kernel_rfl) (fun _ _ _ h => h) (Or.inl ⟨by rfl, ?y4a⟩) hS0 ?r4a
  case y4a => (intro w' hSw; have hO := hZ.below hSw; have q1 := hO.c1; have q2 := hO.c2; have q3 := L1 _ hO; have q4 := L2 _ hO; have hD := hBZ.below hSw hBZ.lt; have d0 : w'.cell? ⟨w.heap.size, 0, none⟩ = some (.int .i64 d.1) := (by rw [hD.cell]; rfl); have d1 : w'.cell? ⟨w.heap.size, 1, none⟩ = some (.int .u64 (d.2 : Int)) := (by rw [hD.cell]; rfl); go_simp; try rfl)
  try simp only [Act.put, List.setIfInBounds_toArray, List.set_cons_zero, List.set_cons_succ]
  refine' wpAnyH_take (i := 5) (oi := ⟨some 15, _, _, _, _, _⟩) (v := _) rfl (by kernel_rfl) (by kernel_rfl) (by kernel_rfl) (fun _ _ _ h => h) (Or.inl ⟨by rfl, ?y5a⟩) hS0 ?r5a
  case y5a => (intro w' hSw; have hO := hZ.below hSw; have q1 := hO.c1; have q2 := hO.c2; have q3 := L1 _ hO; have q4 := L2 _ hO; have hD := hBZ.below hSw hBZ.lt; have d0 : w'.cell? ⟨w.heap.size, 0, none⟩ = some (.int .i64 d.1) := (by rw [hD.cell]; rfl); have d1 : w'.cell? ⟨w.heap.size, 1, none⟩ = some (.int .u64 (d.2 : Int)) := (by rw [hD.cell]; rfl); go_simp; try rfl)
  try simp only [Act.put, List.setIfInBounds_toArray, List.set_cons_zero, List.set_cons_succ]
  refine' wpAnyH_take (i := 6) (oi := ⟨some 9, _, _, _, _, _⟩) (v := _) rfl (by kernel_rfl) (by kernel_rfl) (by kernel_rfl) (fun _ _ _ h => h) (Or.inl ⟨by rfl, ?y6a⟩) hS0 ?r6a
  case y6a => (intro w' hSw; go_simp; try rfl)
  try simp only [Act.put, List.setIfInBounds_toArray, List.set_cons_zero, List.set_cons_succ]
  refine' wpAnyH_take (i := 7) (oi := ⟨some 16, _, _, _, _, _⟩) (v := _) rfl (by kernel_rfl) (by kernel_rfl) (by kernel_rfl) (fun _ _ _ h => h) (Or.inl ⟨by rfl, ?y7a⟩) hS0 ?r7a
  case y7a => (intro w' hSw; go_simp; try rfl)
  try simp only [Act.put, List.setIfInBounds_toArray, List.set_cons_zero, List.set_cons_succ]
  refine' wpAnyH_take (i := 8) (oi := ⟨some 17, _, _, _, _, _⟩) (v := _) rfl (by kernel_rfl) (by kernel_rfl) (by kernel_rfl) (fun _ _ _ h => h) (Or.inl ⟨by rfl, ?y8a⟩) hS0 ?r8a
  case y8a => (intro w' hSw; go_simp; try rfl)
  try simp only [Act.put, List.setIfInBounds_toArray, List.set_cons_zero, List.set_cons_succ]
  have hA : Below Z0.heap.size Z0 (Z0.alloc (.cells #[.string ⟨#[]⟩, .string ⟨#[]⟩] 39)) := (Below.refl _ _).alloc (Nat.le_refl _) _
  refine held_one (i := 9) (by kernel_rfl) rfl (fun Ka hK => ?_)
  go_simp
  refine hK.out _ _ hA (fun _ => ?_)
  clear hK Ka
  try simp only [Act.put, List.setIfInBounds_toArray, List.set_cons_zero, List.set_cons_succ]
  have hA2 : Below Z0.heap.size Z0 (Z0.alloc (.cells #[.string kt, .string kv] 39)) := (Below.refl _ _).alloc (Nat.le_refl _) _
  refine held_one (i := 10) (by kernel_rfl) rfl (fun Ka hK => ?_)
  go_simp
  refine hK.out _ _ hA2 (fun _ => ?_)
  clear hK Ka
  try simp only [Act.put, List.setIfInBounds_toArray, List.set_cons_zero, List.set_cons_succ]
  refine' wpAnyH_take (i := 11) (oi := ⟨some 6, _, _, _, _, _⟩) (v := _) rfl (by kernel_rfl) (by kernel_rfl) (by kernel_rfl) (fun _ _ _ h => h) (Or.inl ⟨by rfl, ?y11a⟩) hA2 ?r11a
  case y11a => (intro w' hSw; go_simp; try rfl)
  try simp only [Act.put, List.setIfInBounds_toArray, List.set_cons_zero, List.set_cons_succ]
  refine wpAnyH_done (by kernel_rfl) ?_ _
  have h2 := hZ.below hA2
  have hB := hBZ.below hA2 hBZ.lt
  have hb2 := hbZ.trans (hA2.mono hbZ.size)
  clear hS0 hZ hBZ hbZ hA hA2
  go_upto_region 2 with fail
  generalize (Z0.alloc (.cells #[.string kt, .string kv] 39)) = w2 at h2 hB hb2 ⊢
  refine wp_region_held_drew (S := fun X => Below w2.drew.heap.size w2.drew X) hfo (Below.refl _ _) (fun hS0 => ?_)
  have hZ : Os w2.drew p g v V X b1 b2 K T := h2.below (Below.refl _ _).drew
  have hBZ : Blk w2.drew w.heap.size 41 #[.int .i64 d.1, .int .u64 (d.2 : Int)] := hB
  have hbZ : Below w.heap.size w w2.drew := hb2.drew
  clear h2 hB hb2
  generalize w2.drew = Z1 at hS0 hZ hBZ hbZ ⊢
  refine' wpAnyH_take (i := 0) (oi := ⟨some 19, _, _, _, _, _⟩) (v := _) rfl (by kernel_rfl) (by kernel_rfl) (by kernel_rfl) (fun _ _ _ h => h) (Or.inl ⟨by rfl, ?y0b⟩) hS0 ?r0b
  case y0b => (intro w' hSw; go_simp; try rfl)
  try simp only [Act.put, List.setIfInBounds_toArray, List.set_cons_zero, List.set_cons_succ]
  refine' wpAnyH_take (i := 1) (oi := ⟨some 20, _, _, _, _, _⟩) (v := _) rfl (by kernel_rfl) (by kernel_rfl) (by kernel_rfl) (fun _ _ _ h => h) (Or.inl ⟨by rfl, ?y1b⟩) hS0 ?r1b
  case y1b => (intro w' hSw; go_simp; try rfl)
  try simp only [Act.put, List.setIfInBounds_toArray, List.set_cons_zero, List.set_cons_succ]
  refine' wpAnyH_take (i := 2) (oi := ⟨some 21, _, _, _, _, _⟩) (v := _) rfl (by kernel_rfl) (by kernel_rfl) (by kernel_rfl) (fun _ _ _ h => h) (Or.inl ⟨by rfl, ?y2b⟩) hS0 ?r2b
  case y2b => (intro w' hSw; go_simp; try rfl)
  try simp only [Act.put, List.setIfInBounds_toArray, List.set_cons_zero, List.set_cons_succ]
  refine' wpAnyH_take (i := 3) (oi := ⟨some 22, _, _, _, _, _⟩) (v := _) rfl (by kernel_rfl) (by kernel_rfl) (by kernel_rfl) (fun _ _ _ h => h) (Or.inl ⟨by rfl, ?y3b⟩) hS0 ?r3b
  case y3b => (intro w' hSw; have hO := hZ.below hSw; have q1 := hO.c1; have q2 := hO.c2; have q3 := L1 _ hO; have q4 := L2 _ hO; have hD := hBZ.below hSw hBZ.lt; have d0 : w'.cell? ⟨w.heap.size, 0, none⟩ = some (.int .i64 d.1) := (by rw [hD.cell]; rfl); have d1 : w'.cell? ⟨w.heap.size, 1, none⟩ = some (.int .u64 (d.2 : Int)) := (by rw [hD.cell]; rfl); go_simp; try rfl)
  try simp only [Act.put, List.setIfInBounds_toArray, List.set_cons_zero, List.set_cons_succ]
  refine' wpAnyH_take (i := 4) (oi := ⟨some 23, _, _, _, _, _⟩) (v := _) rfl (by kernel_rfl) (by kernel_rfl) (by kernel_rfl) (fun _ _ _ h => h) (Or.inl ⟨by rfl, ?y4b⟩) hS0 ?r4b
  case y4b => (intro w' hSw; have hO := hZ.below hSw; have q1 := hO.c1; have q2 := hO.c2; have q3 := L1 _ hO; have q4 := L2 _ hO; have hD := hBZ.below hSw hBZ.lt; have d0 : w'.cell? ⟨w.heap.size, 0, none⟩ = some (.int .i64 d.1) := (by rw [hD.cell]; rfl); have d1 : w'.cell? ⟨w.heap.size, 1, none⟩ = some (.int .u64 (d.2 : Int)) := (by rw [hD.cell]; rfl); go_simp; try rfl)
  try simp only [Act.put, List.setIfInBounds_toArray, List.set_cons_zero, List.set_cons_succ]
  refine' wpAnyH_take (i := 5) (oi := ⟨some 24, _, _, _, _, _⟩) (v := _) rfl (by kernel_rfl) (by kernel_rfl) (by kernel_rfl) (fun _ _ _ h => h) (Or.inl ⟨by rfl, ?y5b⟩) hS0 ?r5b
  case y5b => (intro w' hSw; have hO := hZ.below hSw; have q1 := hO.c1; have q2 := hO.c2; have q3 := L1 _ hO; have q4 := L2 _ hO; have hD := hBZ.below hSw hBZ.lt; have d0 : w'.cell? ⟨w.heap.size, 0, none⟩ = some (.int .i64 d.1) := (by rw [hD.cell]; rfl); have d1 : w'.cell? ⟨w.heap.size, 1, none⟩ = some (.int .u64 (d.2 : Int)) := (by rw [hD.cell]; rfl); go_simp; try rfl)
  try simp only [Act.put, List.setIfInBounds_toArray, List.set_cons_zero, List.set_cons_succ]
  refine' wpAnyH_take (i := 6) (oi := ⟨some 18, _, _, _, _, _⟩) (v := _) rfl (by kernel_rfl) (by kernel_rfl) (by kernel_rfl) (fun _ _ _ h => h) (Or.inl ⟨by rfl, ?y6b⟩) hS0 ?r6b
  case y6b => (intro w' hSw; go_simp; try rfl)
  try simp only [Act.put, List.setIfInBounds_toArray, List.set_cons_zero, List.set_cons_succ]
  refine' wpAnyH_take (i := 7) (oi := ⟨some 25, _, _, _, _, _⟩) (v := _) rfl (by kernel_rfl) (by kernel_rfl) (by kernel_rfl) (fun _ _ _ h => h) (Or.inl ⟨by rfl, ?y7b⟩) hS0 ?r7b
  case y7b => (intro w' hSw; go_simp; try rfl)
  try simp only [Act.put, List.setIfInBounds_toArray, List.set_cons_zero, List.set_cons_succ]
  refine' wpAnyH_take (i := 8) (oi := ⟨some 26, _, _, _, _, _⟩) (v := _) rfl (by kernel_rfl) (by kernel_rfl) (by kernel_rfl) (fun _ _ _ h => h) (Or.inl ⟨by rfl, ?y8b⟩) hS0 ?r8b
  case y8b => (intro w' hSw; go_simp; try rfl)
  try simp only [Act.put, List.setIfInBounds_toArray, List.set_cons_zero, List.set_cons_succ]
  have hA : Below Z1.heap.size Z1 (Z1.alloc (.cells #[] 93)) := (Below.refl _ _).alloc (Nat.le_refl _) _
  refine held_one (i := 9) (by kernel_rfl) rfl (fun Kb hK => ?_)
  go_simp
  refine hK.out _ _ hA (fun _ => ?_)
  clear hK Kb
  try simp only [Act.put, List.setIfInBounds_toArray, List.set_cons_zero, List.set_cons_succ]
  have hA2 : Below Z1.heap.size Z1 (Z1.alloc (.cells #[] 93)) := (Below.refl _ _).alloc (Nat.le_refl _) _
  refine held_one (i := 10) (by kernel_rfl) rfl (fun Kb hK => ?_)
  go_simp
  refine hK.out _ _ hA2 (fun _ => ?_)
  clear hK Kb
  try simp only [Act.put, List.setIfInBounds_toArray, List.set_cons_zero, List.set_cons_succ]
  refine' wpAnyH_take (i := 11) (oi := ⟨some 8, _, _, _, _, _⟩) (v := _) rfl (by kernel_rfl) (by kernel_rfl) (by kernel_rfl) (fun _ _ _ h => h) (Or.inl ⟨by rfl, ?y11b⟩) hA2 ?r11b
  case y11b => (intro w' hSw; go_simp; try rfl)
  try simp only [Act.put, List.setIfInBounds_toArray, List.set_cons_zero, List.set_cons_succ]
  refine wpAnyH_done (by kernel_rfl) ?_ _
  have h3 := hZ.below hA2
  have hB := hBZ.below hA2 hBZ.lt
  have hb3 := hbZ.trans (hA2.mono hbZ.size)
  clear hS0 hZ hBZ hbZ hA hA2
  generalize (Z1.alloc (.cells #[] 93)) = w3 at h3 hB hb3 ⊢
  cases r1
  · go_wp2
    go_ret
    exact ⟨rfl, hb3⟩
  · go_wp2
    go_ret
    exact ⟨rfl, hb3⟩
set_option maxHeartbeats 4000000 in
theorem oput_any (h : Os w p g v V X b1 b2 K T) (i : It) (hd : OkD i.d) (hK : K.length < 1000000) (hT : T.length < 1000000) : Calls Tryz.prog 74 #[.pointer (some ⟨p, 0, none⟩), .agg (itc i)] w fun e w' => e = .returned (.tuple #[]) ∧ Os w' p g v V X b1 b2 (if i.g = true then butD i.d K else (i.d, (i.t, i.v)) :: butD i.d K) (if i.g = true then (i.d, ()) :: butD i.d T else T) ∧ Keep (fun j => j = b1 ∨ j = b2) w w' := by
  have hfo : Tryz.prog.follows .mixedOrders = true := by kernel_rfl
  obtain ⟨hl1, hl2⟩ := h.ma.lt
  have h1 := h.below ((Below.refl _ _).alloc (Nat.le_refl _) (.cells (itc i) 48))
  have hB := Blk.new w 48 (itc i)
  have k1 : Keep (fun j => j = b1 ∨ j = b2) w (w.alloc (.cells (itc i) 48)) := Keep.of_below ((Below.refl _ _).alloc (Nat.le_refl _) _)
  have hnp : ¬ (p = b1 ∨ p = b2) := fun e => e.elim h.farP.1 h.farP.2
  have hni : ¬ (w.heap.size = b1 ∨ w.heap.size = b2) := by omega
  have hmx : K.length < maxLen ∧ T.length < maxLen := by unfold maxLen; omega
  go_enter Tryz.func74, Tryz.ntmps74
  go_upto_region 1 with fail
  generalize w.alloc (.cells (itc i) 48) = w1 at h1 hB k1 ⊢
  clear h
  have a4 := it_4 hB
  cases hgg : i.g with
  | true =>
    rw [hgg] at a4
    go_upto_region 2 with fail
    refine wp_region_held_drew (S := fun X => Keep (fun j => j = b1 ∨ j = b2) w1.drew X) hfo (Keep.refl _ _) (fun hS0 => ?_)
    have hZ : Os w1.drew p g v V X b1 b2 K T := h1.below (Below.refl _ _).drew
    have hBZ : Blk w1.drew w.heap.size 48 (itc i) := hB
    have kZ : Keep (fun j => j = b1 ∨ j = b2) w w1.drew := k1.trans (Keep.of_below (S := fun j => j = b1 ∨ j = b2) (Below.refl _ _).drew) (fun _ h => h) (fun _ _ h => h)
    clear h1 hB k1 a4
    generalize w1.drew = Z0 at hS0 hZ hBZ kZ ⊢
    have c1 := hZ.c1
    have c2 := hZ.c2
    have i0 := it_0 hBZ
    have i1 := it_1 hBZ
    have i2 := it_2 hBZ
    have i3 := it_3 hBZ
    have i4 := it_4 hBZ
    refine' wpAnyH_take (i := 0) (oi := ⟨some 6, _, _, _, _, _⟩) (v := _) rfl (by kernel_rfl) (by kernel_rfl) (by kernel_rfl) (fun _ _ _ h => h) (Or.inl ⟨by rfl, ?y0c⟩) hS0 ?r0c
    case y0c => (intro w' hSw; go_simp; try rfl)
    try simp only [Act.put, List.setIfInBounds_toArray, List.set_cons_zero, List.set_cons_succ]
    refine' wpAnyH_take (i := 1) (oi := ⟨some 7, _, _, _, _, _⟩) (v := _) rfl (by kernel_rfl) (by kernel_rfl) (by kernel_rfl) (fun _ _ _ h => h) (Or.inl ⟨by rfl, ?y1c⟩) hS0 ?r1c
    case y1c => (intro w' hSw; go_simp; try rfl)
    try simp only [Act.put, List.setIfInBounds_toArray, List.set_cons_zero, List.set_cons_succ]
    refine' wpAnyH_take (i := 2) (oi := ⟨some 8, _, _, _, _, _⟩) (v := _) rfl (by kernel_rfl) (by kernel_rfl) (by kernel_rfl) (fun _ _ _ h => h) (Or.inl ⟨by rfl, ?y2c⟩) hS0 ?r2c
    case y2c => (intro w' hSw; go_simp; try rfl)
    try simp only [Act.put, List.setIfInBounds_toArray, List.set_cons_zero, List.set_cons_succ]
    refine' wpAnyH_take (i := 3) (oi := ⟨some 9, _, _, _, _, _⟩) (v := _) rfl (by kernel_rfl) (by kernel_rfl) (by kernel_rfl) (fun _ _ _ h => h) (Or.inl ⟨by rfl, ?y3c⟩) hS0 ?r3c
    case y3c => (intro w' hSw; have q1 := hSw.cell c1 hnp; have q2 := hSw.cell c2 hnp; have d0 := hSw.cell i0 hni; have d1 := hSw.cell i1 hni; have d2 := hSw.cell i2 hni; have d3 := hSw.cell i3 hni; go_simp; try rfl)
    try simp only [Act.put, List.setIfInBounds_toArray, List.set_cons_zero, List.set_cons_succ]
    refine' wpAnyH_take (i := 4) (oi := ⟨some 10, _, _, _, _, _⟩) (v := _) rfl (by kernel_rfl) (by kernel_rfl) (by kernel_rfl) (fun _ _ _ h => h) (Or.inl ⟨by rfl, ?y4c⟩) hS0 ?r4c
    case y4c => (intro w' hSw; go_simp; try rfl)
    try simp only [Act.put, List.setIfInBounds_toArray, List.set_cons_zero, List.set_cons_succ]
    refine' wpAnyH_take (i := 5) (oi := ⟨some 11, _, _, _, _, _⟩) (v := _) rfl (by kernel_rfl) (by kernel_rfl) (by kernel_rfl) (fun _ _ _ h => h) (Or.inl ⟨by rfl, ?y5c⟩) hS0 ?r5c
    case y5c => (intro w' hSw; have q1 := hSw.cell c1 hnp; have q2 := hSw.cell c2 hnp; have d0 := hSw.cell i0 hni; have d1 := hSw.cell i1 hni; have d2 := hSw.cell i2 hni; have d3 := hSw.cell i3 hni; go_simp; try rfl)
    try simp only [Act.put, List.setIfInBounds_toArray, List.set_cons_zero, List.set_cons_succ]
    obtain ⟨Z01, hrun, hm, hgr⟩ := hZ.ma.delL hd 0
    try simp only [dval] at hrun
    try simp only [keyV] at hrun
    have kS : Keep (fun j => j = b1 ∨ j = b2) Z0 Z01 := Keep.of_grown hgr (fun k hk => by injection hk with hk; exact .inl hk.symm)
    have h2 := hZ.turned kS hm
    have k2 := kZ.trans kS (fun _ h => h) (fun _ _ h => h)
    have hB := hBZ.kept kS hni
    clear hm hgr hZ kZ hBZ c1 c2 i0 i1 i2 i3 i4
    refine held_one (i := 6) (by kernel_rfl) rfl (fun Kc hK => ?_)
    go_simp
    refine hK.out _ _ kS (fun _ => ?_)
    clear hK Kc
    try simp only [Act.put, List.setIfInBounds_toArray, List.set_cons_zero, List.set_cons_succ]
    refine wpAnyH_done (by kernel_rfl) ?_ _
    clear hrun kS hS0
    go_upto_region 3 with fail
    refine wp_region_held_drew (S := fun X => Keep (fun j => j = b1 ∨ j = b2) Z01.drew X) hfo (Keep.refl _ _) (fun hS0 => ?_)
    have hZ : Os Z01.drew p g v V X b1 b2 (butD i.d K) T := h2.below (Below.refl _ _).drew
    have hBZ : Blk Z01.drew w.heap.size 48 (itc i) := hB
    have kZ : Keep (fun j => j = b1 ∨ j = b2) w Z01.drew := k2.trans (Keep.of_below (S := fun j => j = b1 ∨ j = b2) (Below.refl _ _).drew) (fun _ h => h) (fun _ _ h => h)
    clear h2 hB k2
    generalize Z01.drew = Z1 at hS0 hZ hBZ kZ ⊢
    have c1 := hZ.c1
    have c2 := hZ.c2
    have i0 := it_0 hBZ
    have i1 := it_1 hBZ
    have i2 := it_2 hBZ
    have i3 := it_3 hBZ
    have i4 := it_4 hBZ
    refine' wpAnyH_take (i := 0) (oi := ⟨some 12, _, _, _, _, _⟩) (v := _) rfl (by kernel_rfl) (by kernel_rfl) (by kernel_rfl) (fun _ _ _ h => h) (Or.inl ⟨by rfl, ?y0d⟩) hS0 ?r0d
    case y0d => (intro w' hSw; go_simp; try rfl)
    try simp only [Act.put, List.setIfInBounds_toArray, List.set_cons_zero, List.set_cons_succ]
    refine' wpAnyH_take (i := 1) (oi := ⟨some 13, _, _, _, _, _⟩) (v := _) rfl (by kernel_rfl) (by kernel_rfl) (by kernel_rfl) (fun _ _ _ h => h) (Or.inl ⟨by rfl, ?y1d⟩) hS0 ?r1d
    case y1d => (intro w' hSw; go_simp; try rfl)
    try simp only [Act.put, List.setIfInBounds_toArray, List.set_cons_zero, List.set_cons_succ]
    refine' wpAnyH_take (i := 2) (oi := ⟨some 14, _, _, _, _, _⟩) (v := _) rfl (by kernel_rfl) (by kernel_rfl) (by kernel_rfl) (fun _ _ _ h => h) (Or.inl ⟨by rfl, ?y2d⟩) hS0 ?r2d
    case y2d => (intro w' hSw; go_simp; try rfl)
    try simp only [Act.put, List.setIfInBounds_toArray, List.set_cons_zero, List.set_cons_succ]
    refine' wpAnyH_take (i := 3) (oi := ⟨some 15, _, _, _, _, _⟩) (v := _) rfl (by kernel_rfl) (by kernel_rfl) (by kernel_rfl) (fun _ _ _ h => h) (Or.inl ⟨by rfl, ?y3d⟩) hS0 ?r3d
    case y3d => (intro w' hSw; have q1 := hSw.cell c1 hnp; have q2 := hSw.cell c2 hnp; have d0 := hSw.cell i0 hni; have d1 := hSw.cell i1 hni; have d2 := hSw.cell i2 hni; have d3 := hSw.cell i3 hni; go_simp; try rfl)
    try simp only [Act.put, List.setIfInBounds_toArray, List.set_cons_zero, List.set_cons_succ]
    refine' wpAnyH_take (i := 4) (oi := ⟨some 16, _, _, _, _, _⟩) (v := _) rfl (by kernel_rfl) (by kernel_rfl) (by kernel_rfl) (fun _ _ _ h => h) (Or.inl ⟨by rfl, ?y4d⟩) hS0 ?r4d
    case y4d => (intro w' hSw; go_simp; try rfl)
    try simp only [Act.put, List.setIfInBounds_toArray, List.set_cons_zero, List.set_cons_succ]
    refine' wpAnyH_take (i := 5) (oi := ⟨some 17, _, _, _, _, _⟩) (v := _) rfl (by kernel_rfl) (by kernel_rfl) (by kernel_rfl) (fun _ _ _ h => h) (Or.inl ⟨by rfl, ?y5d⟩) hS0 ?r5d
    case y5d => (intro w' hSw; have q1 := hSw.cell c1 hnp; have q2 := hSw.cell c2 hnp; have d0 := hSw.cell i0 hni; have d1 := hSw.cell i1 hni; have d2 := hSw.cell i2 hni; have d3 := hSw.cell i3 hni; go_simp; try rfl)
    try simp only [Act.put, List.setIfInBounds_toArray, List.set_cons_zero, List.set_cons_succ]
    refine' wpAnyH_take (i := 6) (oi := ⟨some 18, _, _, _, _, _⟩) (v := _) rfl (by kernel_rfl) (by kernel_rfl) (by kernel_rfl) (fun _ _ _ h => h) (Or.inl ⟨by rfl, ?y6d⟩) hS0 ?r6d
    case y6d => (intro w' hSw; go_simp; try rfl)
    try simp only [Act.put, List.setIfInBounds_toArray, List.set_cons_zero, List.set_cons_succ]
    obtain ⟨Z11, hrun, hm, hgr⟩ := hZ.ma.putT hd hmx.2
    try simp only [dval] at hrun
    try simp only [keyV] at hrun
    have kS : Keep (fun j => j = b1 ∨ j = b2) Z1 Z11 := Keep.of_grown hgr (fun k hk => by injection hk with hk; exact .inr hk.symm)
    have h3 := hZ.turned kS hm
    have k3 := kZ.trans kS (fun _ h => h) (fun _ _ h => h)
    have hB := hBZ.kept kS hni
    clear hm hgr hZ kZ hBZ c1 c2 i0 i1 i2 i3 i4
    refine held_one (i := 7) (by kernel_rfl) rfl (fun Kd hK => ?_)
    go_simp
    refine hK.out _ _ kS (fun _ => ?_)
    clear hK Kd
    try simp only [Act.put, List.setIfInBounds_toArray, List.set_cons_zero, List.set_cons_succ]
    refine wpAnyH_done (by kernel_rfl) ?_ _
    clear hrun kS hS0
    go_wp2
    refine bodyPost_ret (v := .tuple #[]) (results_none rfl _ _ _) rfl ?_
    exact ⟨rfl, (by first | exact h3 | (rw [if_pos rfl, if_pos rfl]; exact h3) | simpa [hgg] using h3), k3⟩
  | false =>
    rw [hgg] at a4
    go_upto_region 4 with fail
    refine wp_region_held_drew (S := fun X => Keep (fun j => j = b1 ∨ j = b2) w1.drew X) hfo (Keep.refl _ _) (fun hS0 => ?_)
    have hZ : Os w1.drew p g v V X b1 b2 K T := h1.below (Below.refl _ _).drew
    have hBZ : Blk w1.drew w.heap.size 48 (itc i) := hB
    have kZ : Keep (fun j => j = b1 ∨ j = b2) w w1.drew := k1.trans (Keep.of_below (S := fun j => j = b1 ∨ j = b2) (Below.refl _ _).drew) (fun _ h => h) (fun _ _ h => h)
    clear h1 hB k1 a4
    generalize w1.drew = Z0 at hS0 hZ hBZ kZ ⊢
    have c1 := hZ.c1
    have c2 := hZ.c2
    have i0 := it_0 hBZ
    have i1 := it_1 hBZ
    have i2 := it_2 hBZ
    have i3 := it_3 hBZ
    have i4 := it_4 hBZ
    refine' wpAnyH_take (i := 0) (oi := ⟨some 19, _, _, _, _, _⟩) (v := _) rfl (by kernel_rfl) (by kernel_rfl) (by kernel_rfl) (fun _ _ _ h => h) (Or.inl ⟨by rfl, ?y0e⟩) hS0 ?r0e
    case y0e => (intro w' hSw; go_simp; try rfl)
    try simp only [Act.put, List.setIfInBounds_toArray, List.set_cons_zero, List.set_cons_succ]
    refine' wpAnyH_take (i := 1) (oi := ⟨some 20, _, _, _, _, _⟩) (v := _) rfl (by kernel_rfl) (by kernel_rfl) (by kernel_rfl) (fun _ _ _ h => h) (Or.inl ⟨by rfl, ?y1e⟩) hS0 ?r1e
    case y1e => (intro w' hSw; go_simp; try rfl)
    try simp only [Act.put, List.setIfInBounds_toArray, List.set_cons_zero, List.set_cons_succ]
    refine' wpAnyH_take (i := 2) (oi := ⟨some 21, _, _, _, _, _⟩) (v := _) rfl (by kernel_rfl) (by kernel_rfl) (by kernel_rfl) (fun _ _ _ h => h) (Or.inl ⟨by rfl, ?y2e⟩) hS0 ?r2e
    case y2e => (intro w' hSw; go_simp; try rfl)
    try simp only [Act.put, List.setIfInBounds_toArray, List.set_cons_zero, List.set_cons_succ]
    refine' wpAnyH_take (i := 3) (oi := ⟨some 22, _, _, _, _, _⟩) (v := _) rfl (by kernel_rfl) (by kernel_rfl) (by kernel_rfl) (fun _ _ _ h => h) (Or.inl ⟨by rfl, ?y3e⟩) hS0 ?r3e
    case y3e => (intro w' hSw; have q1 := hSw.cell c1 hnp; have q2 := hSw.cell c2 hnp; have d0 := hSw.cell i0 hni; have d1 := hSw.cell i1 hni; have d2 := hSw.cell i2 hni; have d3 := hSw.cell i3 hni; go_simp; try rfl)
    try simp only [Act.put, List.setIfInBounds_toArray, List.set_cons_zero, List.set_cons_succ]
    refine' wpAnyH_take (i := 4) (oi := ⟨some 23, _, _, _, _, _⟩) (v := _) rfl (by kernel_rfl) (by kernel_rfl) (by kernel_rfl) (fun _ _ _ h => h) (Or.inl ⟨by rfl, ?y4e⟩) hS0 ?r4e
    case y4e => (intro w' hSw; go_simp; try rfl)
    try simp only [Act.put, List.setIfInBounds_toArray, List.set_cons_zero, List.set_cons_succ]
    refine' wpAnyH_take (i := 5) (oi := ⟨some 24, _, _, _, _, _⟩) (v := _) rfl (by kernel_rfl) (by kernel_rfl) (by kernel_rfl) (fun _ _ _ h => h) (Or.inl ⟨by rfl, ?y5e⟩) hS0 ?r5e
    case y5e => (intro w' hSw; have q1 := hSw.cell c1 hnp; have q2 := hSw.cell c2 hnp; have d0 := hSw.cell i0 hni; have d1 := hSw.cell i1 hni; have d2 := hSw.cell i2 hni; have d3 := hSw.cell i3 hni; go_simp; try rfl)
    try simp only [Act.put, List.setIfInBounds_toArray, List.set_cons_zero, List.set_cons_succ]
    refine' wpAnyH_take (i := 6) (oi := ⟨some 25, _, _, _, _, _⟩) (v := _) rfl (by kernel_rfl) (by kernel_rfl) (by kernel_rfl) (fun _ _ _ h => h) (Or.inl ⟨by rfl, ?y6e⟩) hS0 ?r6e
    case y6e => (intro w' hSw; go_simp; try rfl)
    try simp only [Act.put, List.setIfInBounds_toArray, List.set_cons_zero, List.set_cons_succ]
    refine' wpAnyH_take (i := 7) (oi := ⟨some 26, _, _, _, _, _⟩) (v := _) rfl (by kernel_rfl) (by kernel_rfl) (by kernel_rfl) (fun _ _ _ h => h) (Or.inl ⟨by rfl, ?y7e⟩) hS0 ?r7e
    case y7e => (intro w' hSw; have q1 := hSw.cell c1 hnp; have q2 := hSw.cell c2 hnp; have d0 := hSw.cell i0 hni; have d1 := hSw.cell i1 hni; have d2 := hSw.cell i2 hni; have d3 := hSw.cell i3 hni; go_simp; try rfl)
    try simp only [Act.put, List.setIfInBounds_toArray, List.set_cons_zero, List.set_cons_succ]
    obtain ⟨Z01, hrun, hm, hgr⟩ := hZ.ma.putL hd (i.t, i.v) hmx.1
    try simp only [dval] at hrun
    try simp only [keyV] at hrun
    have kS : Keep (fun j => j = b1 ∨ j = b2) Z0 Z01 := Keep.of_grown hgr (fun k hk => by injection hk with hk; exact .inl hk.symm)
    have h2 := hZ.turned kS hm
    have k2 := kZ.trans kS (fun _ h => h) (fun _ _ h => h)
    have hB := hBZ.kept kS hni
    clear hm hgr hZ kZ hBZ c1 c2 i0 i1 i2 i3 i4
    refine held_one (i := 8) (by kernel_rfl) rfl (fun Ke hK => ?_)
    go_simp
    refine hK.out _ _ kS (fun _ => ?_)
    clear hK Ke
    try simp only [Act.put, List.setIfInBounds_toArray, List.set_cons_zero, List.set_cons_succ]
    refine wpAnyH_done (by kernel_rfl) ?_ _
    clear hrun kS hS0
    go_wp2
    all_goals go_end0
    all_goals exact ⟨rfl, (by first | exact h2 | (rw [if_neg (by decide), if_neg (by decide)]; exact h2) | simpa [hgg] using h2), k2⟩
end
end Go.Proofs.YtldfaaahmpncbaaGreat

namespace Go.Proofs.YtldfaaahmpncbaaGreat
open Go.Maps Go.WideShapes Go.WideMaps
open Go.RowKit
open CtxM
set_option linter.unusedVariables false
set_option linter.unusedSimpArgs false
set_option maxRecDepth 20000

section
variable {w w' : World} {p g : Nat} {v : Value} {V : List Nat} {X : List Dt} {b1 b2 : Nat} {K : Kl} {T : Tl}
/-- What Collect answers and leaves. -/
def CollEnd (p g : Nat) (v : Value) (V : List Nat) (X : List Dt) (b1 b2 : Nat) (K : Kl) (T : Tl) (d : Dt) (w : World) (e : Ending) (w' : World) : Prop :=
  (¬ May d ∧ e = .returned (.int .i64 2) ∧ Below w.heap.size w w') ∨ (May d ∧ d ∉ T.map Prod.fst ∧ e = .returned (.int .i64 6) ∧ Below w.heap.size w w') ∨
  (May d ∧ d ∈ T.map Prod.fst ∧ e = .returned (.int .i64 0) ∧ Os w' p g v V X b1 b2 K (butD d T) ∧ Keep (fun j => j = b1 ∨ j = b2) w w')
set_option maxHeartbeats 4000000 in
theorem ocollect_any (h : Os w p g v V X b1 b2 K T) (d : Dt) : Calls Tryz.prog 35 #[.pointer (some ⟨p, 0, none⟩), .agg #[.int .i64 d.1, .int .u64 (d.2 : Int)]] w (CollEnd p g v V X b1 b2 K T d w) := by
  have hfo : Tryz.prog.follows .mixedOrders = true := by kernel_rfl
  obtain ⟨hl1, hl2⟩ := h.ma.lt
  have h1 := h.below ((Below.refl _ _).alloc (Nat.le_refl _) (.cells #[.int .i64 d.1, .int .u64 (d.2 : Int)] 41))
  have hB := Blk.new w 41 #[.int .i64 d.1, .int .u64 (d.2 : Int)]
  have hb1 : Below w.heap.size w (w.alloc (.cells #[.int .i64 d.1, .int .u64 (d.2 : Int)] 41)) := (Below.refl _ _).alloc (Nat.le_refl _) _
  have hnp : ¬ (p = b1 ∨ p = b2) := fun e => e.elim h.farP.1 h.farP.2
  have hni : ¬ (w.heap.size = b1 ∨ w.heap.size = b2) := by omega
  have hm := fun W => may_any d W
  go_enter Tryz.func35, Tryz.ntmps35
  go_upto_region 1 with fail
  generalize w.alloc (.cells #[.int .i64 d.1, .int .u64 (d.2 : Int)] 41) = w1 at h1 hB hb1 ⊢
  clear h
  have hn := onone_any h1
  have d0 : w1.cell? ⟨w.heap.size, 0, none⟩ = some (.int .i64 d.1) := by rw [hB.cell]; rfl
  have d1 : w1.cell? ⟨w.heap.size, 1, none⟩ = some (.int .u64 (d.2 : Int)) := by rw [hB.cell]; rfl
  by_cases hM : May d
  · rw [decide_eq_true hM] at hm
    have hd := OkD.of_may hM
    have HM := Lib.hid hM
    clear hM
    go_upto_region 5 with (first | (go_at_call 48; refine hn.mono ?_; rintro e wn ⟨rfl, rfl⟩) | (go_at_call 65; refine (hm _).mono ?_; rintro e w2 ⟨rfl, hg2⟩))
    have h2 := h1.below hg2.below
    have hB2 := hB.below hg2.below hB.lt
    have hb2 := hb1.trans (hg2.below.mono hb1.size)
    clear h1 hB hb1 hn d0 d1 hg2 hm
    obtain ⟨r2, hr2⟩ : ∃ r, r = decide (d ∈ T.map Prod.fst) := ⟨_, rfl⟩
    have HR := Lib.hid hr2
    have L2 : ∀ W, Os W p g v V X b1 b2 K T → (Instr.lookup 82 (.map (some b2)) (.agg #[.int .i64 d.1, .int .u64 (d.2 : Int)]) true).run Tryz.prog W = .ok (.tuple #[.agg #[], .bool r2]) W := fun W hW => by
      have := hW.ma.lookT hd
      rw [← hr2] at this
      exact this
    clear hr2
    refine wp_region_held_drew (S := fun X => Below w2.drew.heap.size w2.drew X) hfo (Below.refl _ _) (fun hS0 => ?_)
    have hZ : Os w2.drew p g v V X b1 b2 K T := h2.below (Below.refl _ _).drew
    have hBZ : Blk w2.drew w.heap.size 41 #[.int .i64 d.1, .int .u64 (d.2 : Int)] := hB2
    have hbZ : Below w.heap.size w w2.drew := hb2.drew
    clear h2 hB2 hb2
    generalize w2.drew = Z0 at hS0 hZ hBZ hbZ ⊢
    refine' wpAnyH_take (i := 0) (oi := ⟨some 15, _, _, _, _, _⟩) (v := _) rfl (by kernel_rfl) (by kernel_rfl) (by kernel_rfl) (fun _ _ _ h => h) (Or.inl ⟨by rfl, ?y0a⟩) hS0 ?r0a
    case y0a => (intro w' hSw; go_simp; try rfl)
    try simp only [Act.put, List.setIfInBounds_toArray, List.set_cons_zero, List.set_cons_succ]
    refine' wpAnyH_take (i := 1) (oi := ⟨some 16, _, _, _, _, _⟩) (v := _) rfl (by kernel_rfl) (by kernel_rfl) (by kernel_rfl) (fun _ _ _ h => h) (Or.inl ⟨by rfl, ?y1a⟩) hS0 ?r1a
    case y1a => (intro w' hSw; go_simp; try rfl)
    try simp only [Act.put, List.setIfInBounds_toArray, List.set_cons_zero, List.set_cons_succ]
    refine' wpAnyH_take (i := 2) (oi := ⟨some 17, _, _, _, _, _⟩) (v := _) rfl (by kernel_rfl) (by kernel_rfl) (by kernel_rfl) (fun _ _ _ h => h) (Or.inl ⟨by rfl, ?y2a⟩) hS0 ?r2a
    case y2a => (intro w' hSw; go_simp; try rfl)
    try simp only [Act.put, List.setIfInBounds_toArray, List.set_cons_zero, List.set_cons_succ]
    refine' wpAnyH_take (i := 3) (oi := ⟨some 18, _, _, _, _, _⟩) (v := _) rfl (by kernel_rfl) (by kernel_rfl) (by kernel_rfl) (fun _ _ _ h => h) (Or.inl ⟨by rfl, ?y3a⟩) hS0 ?r3a
    case y3a => (intro w' hSw; have hO := hZ.below hSw; have q2 := hO.c2; have q4 := L2 _ hO; have hD := hBZ.below hSw hBZ.lt; have d0 : w'.cell? ⟨w.heap.size, 0, none⟩ = some (.int .i64 d.1) := (by rw [hD.cell]; rfl); have d1 : w'.cell? ⟨w.heap.size, 1, none⟩ = some (.int .u64 (d.2 : Int)) := (by rw [hD.cell]; rfl); go_simp; try rfl)
    try simp only [Act.put, List.setIfInBounds_toArray, List.set_cons_zero, List.set_cons_succ]
    refine' wpAnyH_take (i := 4) (oi := ⟨some 19, _, _, _, _, _⟩) (v := _) rfl (by kernel_rfl) (by kernel_rfl) (by kernel_rfl) (fun _ _ _ h => h) (Or.inl ⟨by rfl, ?y4a⟩) hS0 ?r4a
    case y4a => (intro w' hSw; have hO := hZ.below hSw; have q2 := hO.c2; have q4 := L2 _ hO; have hD := hBZ.below hSw hBZ.lt; have d0 : w'.cell? ⟨w.heap.size, 0, none⟩ = some (.int .i64 d.1) := (by rw [hD.cell]; rfl); have d1 : w'.cell? ⟨w.heap.size, 1, none⟩ = some (.int .u64 (d.2 : Int)) := (by rw [hD.cell]; rfl); go_simp; try rfl)
    try simp only [Act.put, List.setIfInBounds_toArray, List.set_cons_zero, List.set_cons_succ]
    refine' wpAnyH_take (i := 5) (oi := ⟨some 20, _, _, _, _, _⟩) (v := _) rfl (by kernel_rfl) (by kernel_rfl) (by kernel_rfl) (fun _ _ _ h => h) (Or.inl ⟨by rfl, ?y5a⟩) hS0 ?r5a
    case y5a => (intro w' hSw; have hO := hZ.below hSw; have q2 := hO.c2; have q4 := L2 _ hO; have hD := hBZ.below hSw hBZ.lt; have d0 : w'.cell? ⟨w.heap.size, 0, none⟩ = some (.int .i64 d.1) := (by rw [hD.cell]; rfl); have d1 : w'.cell? ⟨w.heap.size, 1, none⟩ = some (.int .u64 (d.2 : Int)) := (by rw [hD.cell]; rfl); go_simp; try rfl)
    try simp only [Act.put, List.setIfInBounds_toArray, List.set_cons_zero, List.set_cons_succ]
    refine' wpAnyH_take (i := 6) (oi := ⟨some 14, _, _, _, _, _⟩) (v := _) rfl (by kernel_rfl) (by kernel_rfl) (by kernel_rfl) (fun _ _ _ h => h) (Or.inl ⟨by rfl, ?y6a⟩) hS0 ?r6a
    case y6a => (intro w' hSw; go_simp; try rfl)
    try simp only [Act.put, List.setIfInBounds_toArray, List.set_cons_zero, List.set_cons_succ]
    refine' wpAnyH_take (i := 7) (oi := ⟨some 21, _, _, _, _, _⟩) (v := _) rfl (by kernel_rfl) (by kernel_rfl) (by kernel_rfl) (fun _ _ _ h => h) (Or.inl ⟨by rfl, ?y7a⟩) hS0 ?r7a
    case y7a => (intro w' hSw; go_simp; try rfl)
    try simp only [Act.put, List.setIfInBounds_toArray, List.set_cons_zero, List.set_cons_succ]
    refine' wpAnyH_take (i := 8) (oi := ⟨some 22, _, _, _, _, _⟩) (v := _) rfl (by kernel_rfl) (by kernel_rfl) (by kernel_rfl) (fun _ _ _ h => h) (Or.inl ⟨by rfl, ?y8a⟩) hS0 ?r8a
    case y8a => (intro w' hSw; go_simp; try rfl)
    try simp only [Act.put, List.setIfInBounds_toArray, List.set_cons_zero, List.set_cons_succ]
    have hA : Below Z0.heap.size Z0 (Z0.alloc (.cells #[] 93)) := (Below.refl _ _).alloc (Nat.le_refl _) _
    refine held_one (i := 9) (by kernel_rfl) rfl (fun Ka hK => ?_)
    go_simp
    refine hK.out _ _ hA (fun _ => ?_)
    clear hK Ka
    try simp only [Act.put, List.setIfInBounds_toArray, List.set_cons_zero, List.set_cons_succ]
    refine held_one (i := 10) (by kernel_rfl) rfl (fun Ka hK => ?_)
    go_simp
    refine hK.out _ _ hA (fun _ => ?_)
    clear hK Ka
    try simp only [Act.put, List.setIfInBounds_toArray, List.set_cons_zero, List.set_cons_succ]
    refine' wpAnyH_take (i := 11) (oi := ⟨some 6, _, _, _, _, _⟩) (v := _) rfl (by kernel_rfl) (by kernel_rfl) (by kernel_rfl) (fun _ _ _ h => h) (Or.inl ⟨by rfl, ?y11a⟩) hA ?r11a
    case y11a => (intro w' hSw; go_simp; try rfl)
    try simp only [Act.put, List.setIfInBounds_toArray, List.set_cons_zero, List.set_cons_succ]
    refine wpAnyH_done (by kernel_rfl) ?_ _
    have h3 := hZ.below hA
    have hB := hBZ.below hA hBZ.lt
    have hb3 := hbZ.trans (hA.mono hbZ.size)
    clear hS0 hZ hBZ hbZ hA L2
    go_upto_region 6 with fail
    generalize (Z0.alloc (.cells #[] 93)) = w3 at h3 hB hb3 ⊢
    cases r2
    · go_wp2
      go_ret
      exact .inr (.inl ⟨HM.out, of_decide_eq_false HR.out.symm, rfl, hb3⟩)
    · go_upto_region 8 with fail
      refine wp_region_held_drew (S := fun X => Keep (fun j => j = b1 ∨ j = b2) w3.drew X) hfo (Keep.refl _ _) (fun hS0 => ?_)
      have hZ : Os w3.drew p g v V X b1 b2 K T := h3.below (Below.refl _ _).drew
      have hBZ : Blk w3.drew w.heap.size 41 #[.int .i64 d.1, .int .u64 (d.2 : Int)] := hB
      have kZ : Keep (fun j => j = b1 ∨ j = b2) w w3.drew := Keep.of_below hb3.drew
      clear h3 hB hb3
      generalize w3.drew = Z1 at hS0 hZ hBZ kZ ⊢
      have c2 := hZ.c2
      have i0 : Z1.cell? ⟨w.heap.size, 0, none⟩ = some (.int .i64 d.1) := by rw [hBZ.cell]; rfl
      have i1 : Z1.cell? ⟨w.heap.size, 1, none⟩ = some (.int .u64 (d.2 : Int)) := by rw [hBZ.cell]; rfl
      refine' wpAnyH_take (i := 0) (oi := ⟨some 25, _, _, _, _, _⟩) (v := _) rfl (by kernel_rfl) (by kernel_rfl) (by kernel_rfl) (fun _ _ _ h => h) (Or.inl ⟨by rfl, ?y0b⟩) hS0 ?r0b
      case y0b => (intro w' hSw; go_simp; try rfl)
      try simp only [Act.put, List.setIfInBounds_toArray, List.set_cons_zero, List.set_cons_succ]
      refine' wpAnyH_take (i := 1) (oi := ⟨some 26, _, _, _, _, _⟩) (v := _) rfl (by kernel_rfl) (by kernel_rfl) (by kernel_rfl) (fun _ _ _ h => h) (Or.inl ⟨by rfl, ?y1b⟩) hS0 ?r1b
      case y1b => (intro w' hSw; go_simp; try rfl)
      try simp only [Act.put, List.setIfInBounds_toArray, List.set_cons_zero, List.set_cons_succ]
      refine' wpAnyH_take (i := 2) (oi := ⟨some 27, _, _, _, _, _⟩) (v := _) rfl (by kernel_rfl) (by kernel_rfl) (by kernel_rfl) (fun _ _ _ h => h) (Or.inl ⟨by rfl, ?y2b⟩) hS0 ?r2b
      case y2b => (intro w' hSw; go_simp; try rfl)
      try simp only [Act.put, List.setIfInBounds_toArray, List.set_cons_zero, List.set_cons_succ]
      refine' wpAnyH_take (i := 3) (oi := ⟨some 28, _, _, _, _, _⟩) (v := _) rfl (by kernel_rfl) (by kernel_rfl) (by kernel_rfl) (fun _ _ _ h => h) (Or.inl ⟨by rfl, ?y3b⟩) hS0 ?r3b
      case y3b => (intro w' hSw; have q2 := hSw.cell c2 hnp; have d0 := hSw.cell i0 hni; have d1 := hSw.cell i1 hni; go_simp; try rfl)
      try simp only [Act.put, List.setIfInBounds_toArray, List.set_cons_zero, List.set_cons_succ]
      refine' wpAnyH_take (i := 4) (oi := ⟨some 29, _, _, _, _, _⟩) (v := _) rfl (by kernel_rfl) (by kernel_rfl) (by kernel_rfl) (fun _ _ _ h => h) (Or.inl ⟨by rfl, ?y4b⟩) hS0 ?r4b
      case y4b => (intro w' hSw; have q2 := hSw.cell c2 hnp; have d0 := hSw.cell i0 hni; have d1 := hSw.cell i1 hni; go_simp; try rfl)
      try simp only [Act.put, List.setIfInBounds_toArray, List.set_cons_zero, List.set_cons_succ]
      obtain ⟨Z2, hrun, hm2, hgr⟩ := hZ.ma.delT hd 0
      try simp only [dval] at hrun
      have kS : Keep (fun j => j = b1 ∨ j = b2) Z1 Z2 := Keep.of_grown hgr (fun k hk => by injection hk with hk; exact .inr hk.symm)
      have h4 := hZ.turned kS hm2
      have k4 := kZ.trans kS (fun _ h => h) (fun _ _ h => h)
      clear hm2 hgr hZ kZ hBZ c2 i0 i1
      refine held_one (i := 5) (by kernel_rfl) rfl (fun Kb hK => ?_)
      go_simp
      refine hK.out _ _ kS (fun _ => ?_)
      clear hK Kb
      try simp only [Act.put, List.setIfInBounds_toArray, List.set_cons_zero, List.set_cons_succ]
      refine wpAnyH_done (by kernel_rfl) ?_ _
      clear hrun kS hS0
      go_wp2
      go_ret
      exact .inr (.inr ⟨HM.out, of_decide_eq_true HR.out.symm, rfl, h4, k4⟩)
  · rw [decide_eq_false hM] at hm
    have HM := Lib.hid hM
    clear hM
    go_wp2_with (first | (go_at_call 48; refine hn.mono ?_; rintro e wn ⟨rfl, rfl⟩) | (go_at_call 65; refine (hm _).mono ?_; rintro e w2 ⟨rfl, hg2⟩))
    go_ret
    exact .inl ⟨HM.out, rfl, hb1.trans (hg2.below.mono hb1.size)⟩
end
end Go.Proofs.YtldfaaahmpncbaaGreat

namespace Go.Proofs.YtldfaaahmpncbaaGreat
open Go.Maps Go.WideShapes Go.WideMaps
open Go.RowKit
open CtxM
set_option linter.unusedVariables false
set_option linter.unusedSimpArgs false
set_option maxRecDepth 20000

theorem info_set : (Tryz.prog.info? 84).map (·.size) = some 3 := by kernel_rfl
section
variable {w w' : World} {p g : Nat} {v : Value} {V : List Nat} {X : List Dt} {b1 b2 : Nat} {K : Kl} {T : Tl}
set_option maxHeartbeats 2000000 in
theorem olook_any (h : Os w p g v V X b1 b2 K T) : Calls Tryz.prog 62 #[.pointer (some ⟨p, 0, none⟩)] w fun e w' => e = .returned (.agg #[.pointer (some ⟨g, 0, none⟩), .map (some b1), .map (some b2)]) ∧ Below w.heap.size w w' := by
  have h1 := h.below ((Below.refl _ _).alloc (Nat.le_refl _) (.cells #[.pointer none, .map none, .map none] 84))
  have hn := onone_any h1
  have c0 := h1.c0
  have c1 := h1.c1
  have c2 := h1.c2
  go_enter Tryz.func62, Tryz.ntmps62
  go_upto_region 3 with (go_at_call 48; refine hn.mono ?_; rintro e wn ⟨rfl, rfl⟩)
  go_wp2
  exact bodyPost_ret (v := .agg #[.pointer (some ⟨g, 0, none⟩), .map (some b1), .map (some b2)]) (results_cell_row rfl _ _ w.heap.size 84 _ (0, 0) _ rfl (heap_alloc_new w _) Tryz.underlying84 rfl info_set) rfl ⟨rfl, (Below.refl _ _).alloc (Nat.le_refl _) _⟩
theorem olook_nil (w : World) : Calls Tryz.prog 62 #[.pointer none] w fun e w' => e = .returned (.agg #[.pointer none, .map none, .map none]) ∧ Below w.heap.size w w' := by
  have hn := fun W => onone_nil W
  go_enter Tryz.func62, Tryz.ntmps62
  go_wp2_with (go_at_call 48; refine (hn _).mono ?_; rintro e wn ⟨rfl, rfl⟩)
  exact bodyPost_ret (v := .agg #[.pointer none, .map none, .map none]) (results_cell_row rfl _ _ w.heap.size 84 _ (0, 0) _ rfl (heap_alloc_new w _) Tryz.underlying84 rfl info_set) rfl ⟨rfl, (Below.refl _ _).alloc (Nat.le_refl _) _⟩
set_option maxHeartbeats 2000000 in
theorem ogone_any (h : Os w p g v V X b1 b2 K T) (hX : X.length ≤ 100000) (d : Dt) (hd : OkD d) : Calls Tryz.prog 24 #[.pointer (some ⟨p, 0, none⟩), .agg #[.int .i64 d.1, .int .u64 (d.2 : Int)]] w fun e w' => e = .returned (.bool (!decide (d ∈ K.map Prod.fst) && decide (In V X d))) ∧ Below w.heap.size w w' := by
  obtain ⟨r1, hr1⟩ : ∃ r, r = decide (d ∈ K.map Prod.fst) := ⟨_, rfl⟩
  obtain ⟨r2, hr2⟩ : ∃ r, r = decide (In V X d) := ⟨_, rfl⟩
  obtain ⟨kt, kv, hk⟩ : ∃ a b, keyAt K d = (a, b) := ⟨_, _, rfl⟩
  have L1 : ∀ W, Os W p g v V X b1 b2 K T → (Instr.lookup 81 (.map (some b1)) (.agg #[.int .i64 d.1, .int .u64 (d.2 : Int)]) true).run Tryz.prog W = .ok (.tuple #[.agg #[.string kt, .string kv], .bool r1]) W := fun W hW => by
    have := hW.ma.lookL hd
    rw [hk, ← hr1] at this
    exact this
  have L2 := fun W (hW : Os W p g v V X b1 b2 K T) => has_any g v V X d W hW.cx hX
  rw [← hr1, ← hr2]
  rw [← hr2] at L2
  clear hr1 hr2 hk
  have h1 := h.below ((Below.refl _ _).alloc (Nat.le_refl _) (.cells #[.int .i64 d.1, .int .u64 (d.2 : Int)] 41))
  have hB := Blk.new w 41 #[.int .i64 d.1, .int .u64 (d.2 : Int)]
  have hb1 : Below w.heap.size w (w.alloc (.cells #[.int .i64 d.1, .int .u64 (d.2 : Int)] 41)) := (Below.refl _ _).alloc (Nat.le_refl _) _
  go_enter Tryz.func24, Tryz.ntmps24
  go_upto_region 1 with fail
  generalize w.alloc (.cells #[.int .i64 d.1, .int .u64 (d.2 : Int)] 41) = w1 at h1 hB hb1 ⊢
  clear h
  have hlk := olook_any h1
  go_upto_region 2 with (go_at_call 62; refine hlk.mono ?_; rintro e w2 ⟨rfl, hb2⟩)
  have hA : Below w2.heap.size w2 (w2.alloc (.cells #[.pointer (some ⟨g, 0, none⟩), .map (some b1), .map (some b2)] 84)) := (Below.refl _ _).alloc (Nat.le_refl _) _
  have hS := Blk.new w2 84 #[.pointer (some ⟨g, 0, none⟩), .map (some b1), .map (some b2)]
  have h3 := (h1.below hb2).below hA
  have hB3 := (hB.below hb2 hB.lt).below hA (hB.below hb2 hB.lt).lt
  have hb3 := (hb1.trans (hb2.mono hb1.size)).trans (hA.mono (Nat.le_trans hb1.size hb2.size))
  obtain ⟨sb, hsb⟩ : ∃ s, s = w2.heap.size := ⟨_, rfl⟩
  change Code.wp _ _ _ _ (w2.alloc (.cells #[.pointer (some ⟨g, 0, none⟩), .map (some b1), .map (some b2)] 84))
  generalize w2.alloc (.cells #[.pointer (some ⟨g, 0, none⟩), .map (some b1), .map (some b2)] 84) = w3 at hS h3 hB3 hb3 ⊢
  rw [← hsb] at hS ⊢
  clear hsb hA h1 hB hb1 hb2 hlk
  have s0 : w3.cell? ⟨sb, 0, none⟩ = some (.pointer (some ⟨g, 0, none⟩)) := by rw [hS.cell]; rfl
  have s1 : w3.cell? ⟨sb, 1, none⟩ = some (.map (some b1)) := by rw [hS.cell]; rfl
  have d0 : w3.cell? ⟨w.heap.size, 0, none⟩ = some (.int .i64 d.1) := by rw [hB3.cell]; rfl
  have d1 : w3.cell? ⟨w.heap.size, 1, none⟩ = some (.int .u64 (d.2 : Int)) := by rw [hB3.cell]; rfl
  have l1 := L1 _ h3
  go_upto_region 3 with fail
  have hA4 : Below w3.heap.size w3 (w3.alloc (.cells #[.string kt, .string kv] 39)) := (Below.refl _ _).alloc (Nat.le_refl _) _
  have h4 := h3.below hA4
  have hb4 := hb3.trans (hA4.mono hb3.size)
  have hS4 := hS.below hA4 hS.lt
  have hB4 := hB3.below hA4 hB3.lt
  change Code.wp _ _ _ _ (w3.alloc (.cells #[.string kt, .string kv] 39))
  generalize w3.alloc (.cells #[.string kt, .string kv] 39) = w4 at h4 hb4 hS4 hB4 ⊢
  clear s0 s1 d0 d1 l1 hA4 h3 hb3 hS hB3
  have s0 : w4.cell? ⟨sb, 0, none⟩ = some (.pointer (some ⟨g, 0, none⟩)) := by rw [hS4.cell]; rfl
  have d0 : w4.cell? ⟨w.heap.size, 0, none⟩ = some (.int .i64 d.1) := by rw [hB4.cell]; rfl
  have d1 : w4.cell? ⟨w.heap.size, 1, none⟩ = some (.int .u64 (d.2 : Int)) := by rw [hB4.cell]; rfl
  have l2 := L2 _ h4
  cases r1
  · go_wp2_with (go_at_call 42; refine l2.mono ?_; rintro e w5 ⟨rfl, hg5⟩)
    go_ret
    exact ⟨rfl, hb4.trans (hg5.below.mono hb4.size)⟩
  · go_wp2
    go_ret
    exact ⟨rfl, hb4⟩
end
end Go.Proofs.YtldfaaahmpncbaaGreat

namespace Go.Proofs.YtldfaaahmpncbaaGreat
open Go.Maps Go.WideShapes Go.WideMaps
open Go.RowKit
open CtxM
set_option linter.unusedVariables false
set_option linter.unusedSimpArgs false
set_option maxRecDepth 20000

/-- A new set of a context, without items: p, its maps b1, b2 are newer than all of w. -/
def MadeEnd (g : Nat) (v : Value) (V : List Nat) (X : List Dt) (w : World) (e : Ending) (w' : World) : Prop :=
  ∃ p b1 b2, e = .returned (.pointer (some ⟨p, 0, none⟩)) ∧ Os w' p g v V X b1 b2 [] [] ∧ Below w.heap.size w w' ∧ w.heap.size ≤ p ∧ w.heap.size ≤ b1 ∧ w.heap.size ≤ b2
set_option maxHeartbeats 2000000 in
theorem owithout_any (g : Nat) (v : Value) (V : List Nat) (X : List Dt) (w : World) (hc : Cx w g v V X) : Calls Tryz.prog 47 #[.pointer (some ⟨g, 0, none⟩)] w (MadeEnd g v V X w) := by
  have hf : ∀ i, Foot g v i → i < w.heap.size := fun i hi => hi.elim (fun e => e ▸ hc.blk.lt) (fun e => (hc.row.lt i e).2)
  have hmm := @run_makeMap Tryz.prog
  have hb0 : Below w.heap.size w (((w.alloc (.map #[] 0)).alloc (.map #[] 0)).alloc (.cells (osc g w.heap.size (w.heap.size + 1)) 84)) := (((Below.refl _ _).alloc (Nat.le_refl _) _).alloc (by simp) _).alloc (by simp; omega) _
  have hB := Blk.new ((w.alloc (.map #[] 0)).alloc (.map #[] 0)) 84 (osc g w.heap.size (w.heap.size + 1))
  rw [show ((w.alloc (.map #[] 0)).alloc (.map #[] 0)).heap.size = w.heap.size + 1 + 1 by simp] at hB
  have hM1 := ((World.ownsMap_made w Tryz.prog 41 keyR).alloc (.map #[] 0)).alloc (.cells (osc g w.heap.size (w.heap.size + 1)) 84)
  have hM2 := (World.ownsMap_made (w.alloc (.map #[] 0)) Tryz.prog 41 unitElem (H := Unit)).alloc (.cells (osc g w.heap.size (w.heap.size + 1)) 84)
  rw [show (w.alloc (.map #[] 0)).heap.size = w.heap.size + 1 by simp] at hM2
  go_enter Tryz.func47, Tryz.ntmps47
  go_wp2
  go_ret
  refine ⟨w.heap.size + 1 + 1, w.heap.size, w.heap.size + 1, rfl, ⟨hB, hc.kept (S := fun _ => False) (Keep.of_below hb0) (fun _ _ h => h), ⟨hM1, hM2, OkL.nil, OkL.nil, by omega⟩, fun i hi => by have := hf i hi; omega, by omega⟩, hb0, by omega, Nat.le_refl _, by omega⟩
set_option maxHeartbeats 2000000 in
theorem onew_any (w : World) : Calls Tryz.prog 12 #[] w fun e w' => ∃ p g b1 b2, e = .returned (.pointer (some ⟨p, 0, none⟩)) ∧ Os w' p g (.slice none 0 0) zeros [] b1 b2 [] [] ∧ Below w.heap.size w w' ∧ w.heap.size ≤ p ∧ w.heap.size ≤ b1 ∧ w.heap.size ≤ b2 ∧ w.heap.size ≤ g := by
  go_enter Tryz.func12, Tryz.ntmps12
  go_wp2_with (first | (go_at_call 40; refine (new_any _).mono ?_; rintro e w1 ⟨rfl, hc, hb1⟩; have hwt := owithout_any _ _ _ _ w1 hc) | (go_at_call 47; refine hwt.mono ?_; rintro e w2 ⟨p, b1, b2, rfl, ho, hb2, l1, l2, l3⟩))
  go_ret
  have := hb1.size
  exact ⟨p, _, b1, b2, rfl, ho, hb1.trans (hb2.mono hb1.size), by omega, by omega, by omega, Nat.le_refl _⟩
end Go.Proofs.YtldfaaahmpncbaaGreat

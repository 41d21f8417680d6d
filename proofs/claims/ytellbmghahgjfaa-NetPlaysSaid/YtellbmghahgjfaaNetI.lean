/-
  lines.All as a call; find: where the flight of a place stands.
-/
import Derived.Test.YtellbmghahgjfaaNetH
import Derived.Sort.CutIn
namespace Go.Proofs.Ytellbmghahgjfaa
open Go.RowKit Go.Maps Go.WideShapes Go.WideMaps
open NetM
set_option linter.unusedVariables false
set_option linter.unusedSimpArgs false
set_option maxRecDepth 20000
attribute [local go_sem] Oper.semAt_some

theorem linesAll_any (m : Option Nat) (w : World) : Calls Try.prog 50 #[.map m] w fun e w' => e = .returned (.func (.func 53) #[] #[.pointer (some ⟨w.heap.size, 0, none⟩)]) ∧ w' = w.alloc (.cells #[.map m] 53) := by
  go_enter Try.func50, Try.ntmps50
  go_wp2
  go_ret
  exact ⟨rfl, rfl⟩
theorem enter_allL : ∀ args w, (callFunc 53 args).run Try.prog w = .ok (.enter 53 args) w := fun _ _ => by kernel_rfl
section
variable {w w' : World} {p b : Nat} {E lost : Int} {m : Option Nat} {K : Kl} {V : List (Fl Pl)} {G : Nat → Prop}
/-- A place's spot: the line, which one of it. -/
def spotC : Option (Fl Pl) → Nat → Array Value
  | some f, k => #[.int .i64 f.p.1, .int .i64 f.p.2, .int .i64 (k : Int)]
  | none, _ => #[.int .i64 0, .int .i64 0, .int .i64 0]
/-- What find answers: where the flight of a place stands. -/
def FindEnd (w : World) (V : List (Fl Pl)) (i : Nat) (e : Ending) (w' : World) : Prop :=
  Below w.heap.size w w' ∧ ((∃ h : i < V.length, e = .returned (.tuple #[.agg #[.int .i64 V[i].p.1, .int .i64 V[i].p.2, .int .i64 (nth V i V[i].p : Int)], .int .i64 0])) ∨ (V.length ≤ i ∧ e = .returned (.tuple #[.agg #[.int .i64 0, .int .i64 0, .int .i64 0], .int .i64 6])))
/-- The spot of the last that has come. -/
def atC (V : List (Fl Pl)) : Nat → Array Value
  | 0 => #[.int .i64 0, .int .i64 0, .int .i64 0]
  | k + 1 => match V[k]? with
    | some f => #[.int .i64 f.p.1, .int .i64 f.p.2, .int .i64 (nth V k f.p : Int)]
    | none => #[.int .i64 0, .int .i64 0, .int .i64 0]
theorem atC_succ {V : List (Fl Pl)} {k : Nat} {f : Fl Pl} (h : V[k]? = some f) : atC V (k + 1) = #[.int .i64 f.p.1, .int .i64 f.p.2, .int .i64 (nth V k f.p : Int)] := by simp only [atC, h]
/-- find's blocks: the place, the answers, the spot. -/
structure Fb (w W : World) (z bx : Nat) (b : Nat) (K : Kl) (V : List (Fl Pl)) (G : Nat → Prop) (i : Nat) (C : Array Value) : Prop where
  bel : Below w.heap.size w W
  ls : LsAt W bx (some b) K V G
  place : Blk W z 3 #[.int .i64 (i : Int)]
  spot : Blk W (z + 1) 70 #[.int .i64 0, .int .i64 0, .int .i64 0]
  code : Blk W (z + 1 + 1) 24 #[.int .i64 0]
  at_ : Blk W (z + 1 + 1 + 1) 70 C
theorem info_spot : (Try.prog.info? 70).map (·.size) = some 3 := by kernel_rfl
theorem info_errno : (Try.prog.info? 24).map (·.size) = some 1 := by kernel_rfl
theorem grown_put (W : World) (l : Nat) (o : Obj) : W.grownBy (W.putObj l o) (some l) := ⟨rfl, rfl, rfl, by simp, fun k _ hk => World.putObj_heap_other (fun e => hk (by rw [e]))⟩
theorem below_put {B : Nat} (W : World) (l : Nat) (o : Obj) (hl : B ≤ l) (hW : B ≤ W.heap.size) : Below B W (W.putObj l o) := (Below.refl B W).grown (grown_put W l o) hW (fun k e => by injection e with e; omega)
theorem Kq.of_belowB {B : Nat} {A C : World} (h : Below B A C) : Kq B (fun k _ => B ≤ k) A C :=
  ⟨h.size, fun k o ho hn _ => (h.block k (by omega)).trans ho⟩
theorem LsAt.kept {B : Nat} {A C : World} {bx : Nat} (h : LsAt A bx m K V G) (k : Below B A C) (hb : ∀ b, m = some b → b < B) (hG : ∀ i, G i → i < B) (hx : bx < B) : LsAt C bx m K V G :=
  ⟨(Kq.of_belowB k).ls h.1 (fun b e => ⟨hb b e, fun _ hc => by have := hb b e; omega⟩) (fun i hi => ⟨hG i hi, fun _ hc => by have := hG i hi; omega⟩), (World.cell?_of_block (k.block bx hx)).trans h.2⟩
theorem Fb.kept {w W W' : World} {z bx b i B : Nat} {C : Array Value} (h : Fb w W z bx b K V G i C) (k : Below B W W') (hw : w.heap.size ≤ B) (hz : z + 4 ≤ B) (hx : bx < B) (hb : b < B) (hG : ∀ i, G i → i < B) : Fb w W' z bx b K V G i C :=
  ⟨h.bel.trans (k.mono hw), h.ls.kept k (fun c e => by injection e with e; omega) hG hx, h.place.below k (by omega), h.spot.below k (by omega), h.code.below k (by omega), h.at_.below k (by omega)⟩
theorem Fb.size {w W : World} {z bx b i : Nat} {C : Array Value} (h : Fb w W z bx b K V G i C) : z + 4 ≤ W.heap.size ∧ w.heap.size ≤ W.heap.size := ⟨by have := h.at_.lt; omega, h.bel.size⟩
theorem Fb.bxlt {w W : World} {z bx b i : Nat} {C : Array Value} (h : Fb w W z bx b K V G i C) : bx < W.heap.size := World.block_lt_of_cell? W ⟨bx, 0, none⟩ h.ls.2
theorem Blk.put_ {w : World} {g : Nat} {t : TypeId} {cs : Array Value} (h : Blk w g t cs) {l : Nat} {o : Obj} (hl : w.heap[l]? = some o) (hc : o.isCells = false) (o' : Obj) : Blk (w.putObj l o') g t cs := by
  have hne : g ≠ l := by
    rintro rfl
    unfold Blk at h
    rw [h] at hl
    injection hl with hl
    rw [← hl] at hc; cases hc
  unfold Blk at h ⊢
  exact (World.putObj_heap_other hne).trans h
theorem KeepsFrom.of_keep {S : Nat → Prop} {B : Nat} {A C : World} (h : Keep S A C) (hS : ∀ k, S k → ∀ o, A.heap[k]? = some o → o.isCells = true) : KeepsFrom B A C :=
  ⟨h.size, fun k o _ hk hc => (h.block k (Array.getElem?_eq_some_iff.1 hk).1 (fun hs => by rw [hS k hs o hk] at hc; cases hc)).trans hk⟩
theorem KeepsFrom.of_below {B : Nat} {A C : World} (h : Below A.heap.size A C) : KeepsFrom B A C := KeepsFrom.of_keep (S := fun _ => False) (Keep.of_below h) (fun k h => h.elim)
theorem results_row_cell {P : Program} {fn : Func} {p u : Tmp} {ty ty2 : TypeId} (h : fn.results = #[.cell p ty, .cell u ty2]) (tmps : Array Value) (w : World) (g : Nat) (t : TypeId) (cs : Array Value) (fr : Nat × Nat) (d : TypeDesc)
    (hp : tmps.getD p undef = .pointer (some ⟨g, 0, none⟩)) (hg : w.heap[g]? = some (.cells cs t fr)) (hu : P.underlying ty = some d) (hd : (match d with | .struct _ | .array _ _ => true | _ => false) = true) (hi : (P.info? ty).map (·.size) = some cs.size)
    (g2 : Nat) (v2 : Value) (hp2 : tmps.getD u undef = .pointer (some ⟨g2, 0, none⟩)) (hl : (loadVar ty2 ⟨g2, 0, none⟩).run P w = .ok v2 w) :
    (results fn tmps).run P w = .ok (.tuple #[.agg cs, v2]) w := by
  have hp' : tmps[p]?.getD undef = .pointer (some ⟨g, 0, none⟩) := by simpa using hp
  have hp2' : tmps[u]?.getD undef = .pointer (some ⟨g2, 0, none⟩) := by simpa using hp2
  simp [results, h, hp', hp2', asAddr, run_loadVar_row w g t ty cs fr d hg hu hd hi, hl, Result.andThen]
theorem results_row_tmp {P : Program} {fn : Func} {p u : Tmp} {ty : TypeId} (h : fn.results = #[.cell p ty, .tmp u]) (tmps : Array Value) (w : World) (g : Nat) (t : TypeId) (cs : Array Value) (fr : Nat × Nat) (d : TypeDesc)
    (hp : tmps.getD p undef = .pointer (some ⟨g, 0, none⟩)) (hg : w.heap[g]? = some (.cells cs t fr)) (hu : P.underlying ty = some d) (hd : (match d with | .struct _ | .array _ _ => true | _ => false) = true) (hi : (P.info? ty).map (·.size) = some cs.size) (v2 : Value) (hv2 : tmps.getD u undef = v2) :
    (results fn tmps).run P w = .ok (.tuple #[.agg cs, v2]) w := by
  subst hv2
  have hp' : tmps[p]?.getD undef = .pointer (some ⟨g, 0, none⟩) := by simpa using hp
  simp [results, h, hp', asAddr, run_loadVar_row w g t ty cs fr d hg hu hd hi, Result.andThen]
theorem load_errno (W : World) (g : Nat) (v : Value) (h : W.cell? ⟨g, 0, none⟩ = some v) : (loadVar 24 ⟨g, 0, none⟩).run Try.prog W = .ok v W := by
  have h1 := Try.isAgg24
  simp [loadVar, h1, go_sem, h, Result.andThen]
/-- What find's loop holds. -/
def FI (w : World) (b : Nat) (K : Kl) (V : List (Fl Pl)) (G : Nat → Prop) (i : Nat) (pre : List Pf) (W : World) : Prop :=
  Fb w W w.heap.size (w.heap.size + 4) b K V G i (atC V pre.length) ∧ w.heap.size + 5 ≤ W.heap.size ∧ pre = enumF (V.take pre.length) ∧ pre.length ≤ i ∧ pre.length ≤ V.length
/-- Where it leaves. -/
def FX (w : World) (V : List (Fl Pl)) (i : Nat) (c : Code) (pre : List Pf) (W : World) : Prop :=
  c = .ret ∧ Below w.heap.size w W ∧ w.heap.size + 5 ≤ W.heap.size ∧ i < V.length ∧ Blk W (w.heap.size + 1) 70 (atC V (i + 1)) ∧ Blk W (w.heap.size + 1 + 1) 24 #[.int .i64 0]
theorem FI.kept {i : Nat} {pre : List Pf} {A C : World} (hb : b < w.heap.size) (hG : ∀ i, G i → i < w.heap.size) (h : FI w b K V G i pre A) (k : Below (w.heap.size + 5) A C) : FI w b K V G i pre C :=
  ⟨h.1.kept k (by omega) (by omega) (by omega) (by omega) (fun i hi => by have := hG i hi; omega), Nat.le_trans h.2.1 k.size, h.2.2⟩
theorem FX.kept {i : Nat} {c : Code} {pre : List Pf} {A C : World} (h : FX w V i c pre A) (k : Below (w.heap.size + 5) A C) : FX w V i c pre C :=
  ⟨h.1, h.2.1.trans (k.mono (by omega)), Nat.le_trans h.2.2.1 k.size, h.2.2.2.1, h.2.2.2.2.1.below k (by omega), h.2.2.2.2.2.below k (by omega)⟩
theorem abs_of {α : Type} {B : Nat} {I : List α → World → Prop} (hs : ∀ s W, I s W → B ≤ W.heap.size) (h : ∀ s A C, I s A → Below B A C → I s C) : Abs B I :=
  ⟨fun s W l o o' hi hl _ _ _ => h s _ _ hi (below_put W l o' hl (hs s W hi)), fun s W o hi => h s _ _ hi ((Below.refl B W).alloc (hs s W hi) o), fun s A C hi hk => h s _ _ hi (hk.mono (by omega))⟩
set_option maxHeartbeats 4000000 in
theorem find_any (h : Nt w p b E lost K V G) (i : Nat) (hi : (i : Int) ≤ 9223372036854775807) : Calls Try.prog 40 #[.pointer (some ⟨p, 0, none⟩), .int .i64 (i : Int)] w (FindEnd w V i) := by
  have hb3 : Below w.heap.size w (((w.alloc (.cells #[.int .i64 (i : Int)] 3)).alloc (.cells #[.int .i64 0, .int .i64 0, .int .i64 0] 70)).alloc (.cells #[.int .i64 0] 24)) := (((Below.refl _ _).alloc (Nat.le_refl _) _).alloc (by simp) _).alloc (by simp; omega) _
  have hq := none_any (h.below hb3)
  have hb4 : Below w.heap.size w ((((w.alloc (.cells #[.int .i64 (i : Int)] 3)).alloc (.cells #[.int .i64 0, .int .i64 0, .int .i64 0] 70)).alloc (.cells #[.int .i64 0] 24)).alloc (.cells #[.int .i64 0, .int .i64 0, .int .i64 0] 70)) := hb3.alloc (by simp; omega) _
  have B0 := (((Blk.new w 3 #[.int .i64 (i : Int)]).alloc (.cells #[.int .i64 0, .int .i64 0, .int .i64 0] 70)).alloc (.cells #[.int .i64 0] 24)).alloc (.cells #[.int .i64 0, .int .i64 0, .int .i64 0] 70)
  have B1 := ((Blk.new (w.alloc (.cells #[.int .i64 (i : Int)] 3)) 70 #[.int .i64 0, .int .i64 0, .int .i64 0]).alloc (.cells #[.int .i64 0] 24)).alloc (.cells #[.int .i64 0, .int .i64 0, .int .i64 0] 70)
  have B2 := (Blk.new ((w.alloc (.cells #[.int .i64 (i : Int)] 3)).alloc (.cells #[.int .i64 0, .int .i64 0, .int .i64 0] 70)) 24 #[.int .i64 0]).alloc (.cells #[.int .i64 0, .int .i64 0, .int .i64 0] 70)
  have B3 := Blk.new (((w.alloc (.cells #[.int .i64 (i : Int)] 3)).alloc (.cells #[.int .i64 0, .int .i64 0, .int .i64 0] 70)).alloc (.cells #[.int .i64 0] 24)) 70 #[.int .i64 0, .int .i64 0, .int .i64 0]
  simp only [World.size_alloc] at B1 B2 B3
  have hz4 : ((((w.alloc (.cells #[.int .i64 (i : Int)] 3)).alloc (.cells #[.int .i64 0, .int .i64 0, .int .i64 0] 70)).alloc (.cells #[.int .i64 0] 24)).alloc (.cells #[.int .i64 0, .int .i64 0, .int .i64 0] 70)).heap.size = w.heap.size + 4 := by simp
  have c1 := h.c1
  have hpl := h.blk.lt
  have hneg : decide ((i : Int) < 0) = false := by simp
  refine (callsIn_wide (n := 20)).1 ?_
  refine callsIn_of_wp_marks Try.func40 rfl trivial ?_ rfl
  simp only [Try.ntmps40, List.size_toArray, List.length_cons, List.length_nil, Nat.reduceAdd, Nat.reduceSub, Array.replicate_succ, Array.replicate_zero, List.push_toArray, List.append_toArray, List.nil_append, List.cons_append]
  gi_wp2_with fail
  refine scope_wide ?_
  gi_wp2_with (first | (refine ⟨trivial, ?_⟩; gi_at_call 29; refine (callsIn_wide.2 hq).mono ?_; rintro e w2 ⟨rfl, rfl⟩))
  apply wpIn_label
  generalize (((w.alloc (.cells #[.int .i64 (i : Int)] 3)).alloc (.cells #[.int .i64 0, .int .i64 0, .int .i64 0] 70)).alloc (.cells #[.int .i64 0] 24)).alloc (.cells #[.int .i64 0, .int .i64 0, .int .i64 0] 70) = w4 at hb4 B0 B1 B2 B3 hz4 ⊢
  clear hq hb3 c1
  have h4 := h.below hb4
  have c1 := h4.c1
  have hb5 : Below w.heap.size w (w4.alloc (.cells #[.map (some b)] 53)) := hb4.alloc hb4.size _
  have hls : LsAt (w4.alloc (.cells #[.map (some b)] 53)) (w.heap.size + 4) (some b) K V G := ⟨(h.below hb5).ls, by rw [← hz4]; exact (Blk.new w4 _ _).cell 0⟩
  have hsz5 : (w4.alloc (.cells #[.map (some b)] 53)).heap.size = w.heap.size + 5 := by simp [hz4]
  have HF0 := Lib.hid (show FI w b K V G i [] (w4.alloc (.cells #[.map (some b)] 53)) from ⟨⟨hb5, hls, B0.alloc _, B1.alloc _, B2.alloc _, B3.alloc _⟩, by omega, by simp [enumF], by simp, by simp⟩)
  have HbL := Lib.hid h.map.lt
  have HgL := Lib.hid h.glt
  have HV := Lib.hid (And.intro h.sorted (And.intro h.inr h.ls.few))
  gi_wp2_with (first | (refine ⟨trivial, ?_⟩; gi_at_call 50; refine (callsIn_wide.2 (linesAll_any (some b) _)).mono ?_; rintro e w3 ⟨rfl, rfl⟩))
  clear h h4 c1 hls hb5 B0 B1 B2 B3 hb4 hneg hpl
  generalize w4.alloc (.cells #[.map (some b)] 53) = w5 at HF0 hsz5 ⊢
  clear hz4
  have hseq : SeqP Fence.wide 19 Try.prog 53 #[.pointer (some ⟨w.heap.size + 4, 0, none⟩)] encF (fun pre x _ => NextF V pre x) (Kq (w.heap.size + 5) (fun k _ => k = w.heap.size + 1 + 1 + 1)) (fun xs => xs = enumF V) (fun _ => True) V.length w5 := by
    intro l J Jx W hbW hJ hJx hY h0
    have hlw := HF0.out.1.ls
    have hlW : LsAt W (w.heap.size + 4) (some b) K V G := hlw.kept (B := w5.heap.size) hbW (fun c e => by injection e with e; have := HbL.out; omega) (fun i hi => by have := HgL.out i hi; omega) (by omega)
    refine (allL_in 19 (by omega) l (w.heap.size + 4) _ J Jx W hY (fun X Y hk hX => ⟨hk.ls hX.1 (fun c e => by injection e with e; have := HbL.out; exact ⟨by omega, fun _ => by omega⟩) (fun j hj => by have := HgL.out j hj; exact ⟨by omega, fun _ => by omega⟩), hk.cell hX.2 (fun o _ => by show ¬ w.heap.size + 4 = w.heap.size + 1 + 1 + 1; omega) (by show w.heap.size + 4 < _; omega)⟩) hlW h0).mono ?_
    rintro e W' ⟨h1, ⟨xs, hx, hj⟩ | ⟨pre, _, hj⟩⟩
    · exact ⟨h1, .inl ⟨xs, hx, hj⟩⟩
    · exact ⟨h1, .inr ⟨pre, trivial, hj⟩⟩
  refine' range_p rfl (by omega) (gf := 53) (lb := #[.pointer (some ⟨w.heap.size + 4, 0, none⟩)]) rfl trivial enter_allL hseq (fun {A B C} h k => h.trans k) ?hKb (Below.refl _ _) (fun _ => rfl) (fun pre x W l o o' hx _ _ => hx)
    (FI w b K V G i) (FX w V i) (abs_of (fun s W h => by have := h.2.1; omega) (fun s A C h k => FI.kept HbL.out HgL.out h (by rw [hsz5] at k; exact k))) (fun c => abs_of (fun s W h => by have := h.2.2.1; omega) (fun s A C h k => FX.kept h (by rw [hsz5] at k; exact k))) HF0.out
    (fun pre x a' W => FI w b K V G i pre W ∧ NextF V pre x ∧ ∃ gf, Blk W gf 44 #[.int .i64 x.2.p.1, .int .i64 x.2.p.2, sv x.2.x] ∧ w.heap.size + 5 ≤ gf ∧ a' = { tmps := #[.pointer (some ⟨p, 0, none⟩), .int .i64 (i : Int), undef, .pointer (some ⟨w.heap.size, 0, none⟩), .pointer (some ⟨w.heap.size + 1, 0, none⟩), .pointer (some ⟨w.heap.size + 1 + 1, 0, none⟩), .pointer (some ⟨w.heap.size + 1 + 1 + 1, 0, none⟩), .int .i64 (x.1 : Int), .pointer (some ⟨gf, 0, none⟩), undef, .bool false, .pointer (some ⟨p, 0, none⟩), .bool false, undef, .bool false, .int .i64 (i : Int), .bool false, undef, .pointer (some ⟨p, 0, none⟩), .pointer (some ⟨p, 0, none⟩), .pointer (some ⟨p, 1, none⟩), .map (some b), .func (.func 53) #[] #[.pointer (some ⟨w.heap.size + 4, 0, none⟩)], .int .i64 (x.1 : Int), .agg #[.int .i64 x.2.p.1, .int .i64 x.2.p.2, sv x.2.x], undef, undef, undef, undef, undef, undef, undef, undef, undef, undef, undef, undef, undef, undef, undef, undef, undef, undef, undef, undef], defers := [] })
    ?hRb ?assign ?body ?done ?stop
  case hKb =>
    intro W l o o' hl ho hc hw
    exact Kq.put W l o o' (by omega) ho hc
  case hRb =>
    rintro pre x a' W l o o' ⟨h1, h2, gf, h3, h4, rfl⟩ hl ho hc hw
    exact ⟨FI.kept HbL.out HgL.out h1 (below_put W l o' (by omega) h1.2.1), h2, gf, h3.put_ ho hc o', h4, rfl⟩
  case assign =>
    rintro l pre ⟨x0, ⟨x1, x2⟩, s0, s1, s2⟩ W K hI hX hlen hK
    simp only [encF, sv]
    gi_wp2
    refine hK _ _ ?_ ?_ ?_
    · exact KeepsFrom.of_below ((Below.refl _ _).alloc (Nat.le_refl _) _)
    · exact Kq.of_below ((Below.refl _ _).alloc (Nat.le_refl _) _)
    · exact ⟨FI.kept HbL.out HgL.out hI ((Below.refl _ _).alloc hI.2.1 _), hX, _, Blk.new _ _ _, hI.2.1, rfl⟩
  case stop =>
    rintro D c pre W hD' _ ⟨rfl, hb, hsz, hiV, hr1, hr2⟩ hDe
    have he : atC V (i + 1) = #[.int .i64 V[i].p.1, .int .i64 V[i].p.2, .int .i64 (nth V i V[i].p : Int)] := atC_succ (List.getElem?_eq_getElem hiV)
    rw [he] at hr1
    have h1 := hr1.put_ hDe rfl (.deferred none)
    have h2 := hr2.put_ hDe rfl (.deferred none)
    have HK := Lib.hid hDe
    have HB := Lib.hid (hb.trans (below_put W D (.deferred none) (by omega) hb.size))
    have HR := Lib.hid (And.intro h1 h2)
    have HI := Lib.hid hiV
    clear hr1 hr2 h1 h2 hDe hb he
    gi_wp2
    refine ⟨by simp, .inl ⟨_, _, rfl, run_takeDeferred HK.out, ?_⟩⟩
    refine ⟨_, results_row_cell rfl _ _ (w.heap.size + 1) 70 _ (0, 0) _ rfl HR.out.1 Try.underlying70 rfl info_spot (w.heap.size + 1 + 1) (.int .i64 0) rfl (load_errno _ _ _ (by rw [HR.out.2.cell]; rfl)), ?_⟩
    exact ⟨HB.out, .inl ⟨HI.out, rfl⟩⟩
  case done =>
    rintro D xs W hD' rfl ⟨hF, hsz, hpre, hl1, hl2⟩ hDe
    rw [enumF_len] at hl1
    have h0 := hF.spot
    have h1 := hF.code
    have hb := hF.bel
    have s0 : W.cell? ⟨w.heap.size + 1, 0, none⟩ = some (.int .i64 0) := by rw [h0.cell]; rfl
    have s1 : W.cell? ⟨w.heap.size + 1, 1, none⟩ = some (.int .i64 0) := by rw [h0.cell]; rfl
    have s2 : W.cell? ⟨w.heap.size + 1, 2, none⟩ = some (.int .i64 0) := by rw [h0.cell]; rfl
    have e0 : W.cell? ⟨w.heap.size + 1 + 1, 0, none⟩ = some (.int .i64 0) := by rw [h1.cell]; rfl
    have f0 := h0.frozen 0
    have f1 := h0.frozen 1
    have f2 := h0.frozen 2
    have f3 := h1.frozen 0
    have HK := Lib.hid hDe
    have HA := Lib.hid (And.intro h0 (And.intro h1 hb))
    have HL := Lib.hid hl1
    clear hF h0 h1 hb hDe hpre hl1 hl2
    gi_wp2
    rw [Exit.noGoto_ret]
    have hne : ∀ {c : Value} {j : Nat} {W' : World} {o : Obj}, W'.heap[D]? = some o → D ≠ w.heap.size + 1 → (W'.setCell ⟨w.heap.size + 1, j, none⟩ c).heap[D]? = some o := fun h1 h2 => (Below.heap_setCell _ _ _ D h2).trans h1
    have hD4 : ((((W.setCell ⟨w.heap.size + 1, 0, none⟩ (.int .i64 0)).setCell ⟨w.heap.size + 1, 1, none⟩ (.int .i64 0)).setCell ⟨w.heap.size + 1, 2, none⟩ (.int .i64 0)).setCell ⟨w.heap.size + 1 + 1, 0, none⟩ (.int .i64 6)).heap[D]? = some (.deferred (some [])) :=
      (Below.heap_setCell _ _ _ D (by show D ≠ _; simp only; omega)).trans (hne (hne (hne HK.out (by omega)) (by omega)) (by omega))
    have k0 : Blk ((((W.setCell ⟨w.heap.size + 1, 0, none⟩ (.int .i64 0)).setCell ⟨w.heap.size + 1, 1, none⟩ (.int .i64 0)).setCell ⟨w.heap.size + 1, 2, none⟩ (.int .i64 0)).setCell ⟨w.heap.size + 1 + 1, 0, none⟩ (.int .i64 6)) (w.heap.size + 1) 70 #[.int .i64 0, .int .i64 0, .int .i64 0] :=
      (((HA.out.1.set_ 0 (.int .i64 0)).set_ 1 (.int .i64 0)).set_ 2 (.int .i64 0)).far (by simp) _
    have k1 : Blk ((((W.setCell ⟨w.heap.size + 1, 0, none⟩ (.int .i64 0)).setCell ⟨w.heap.size + 1, 1, none⟩ (.int .i64 0)).setCell ⟨w.heap.size + 1, 2, none⟩ (.int .i64 0)).setCell ⟨w.heap.size + 1 + 1, 0, none⟩ (.int .i64 6)) (w.heap.size + 1 + 1) 24 #[.int .i64 6] :=
      (((HA.out.2.1.far (by simp) _).far (by simp) _).far (by simp) _).set_ 0 (.int .i64 6)
    have kb : Below w.heap.size w ((((W.setCell ⟨w.heap.size + 1, 0, none⟩ (.int .i64 0)).setCell ⟨w.heap.size + 1, 1, none⟩ (.int .i64 0)).setCell ⟨w.heap.size + 1, 2, none⟩ (.int .i64 0)).setCell ⟨w.heap.size + 1 + 1, 0, none⟩ (.int .i64 6)) :=
      (((HA.out.2.2.setCell (by simp) _).setCell (by simp) _).setCell (by simp) _).setCell (by simp; omega) _
    generalize (((W.setCell ⟨w.heap.size + 1, 0, none⟩ (.int .i64 0)).setCell ⟨w.heap.size + 1, 1, none⟩ (.int .i64 0)).setCell ⟨w.heap.size + 1, 2, none⟩ (.int .i64 0)).setCell ⟨w.heap.size + 1 + 1, 0, none⟩ (.int .i64 6) = W4 at hD4 k0 k1 kb ⊢
    have j0 := k0.put_ hD4 rfl (.deferred none)
    have j1 := k1.put_ hD4 rfl (.deferred none)
    refine ⟨by simp, .inl ⟨_, _, rfl, run_takeDeferred hD4, ?_⟩⟩
    refine ⟨_, results_row_cell rfl _ _ (w.heap.size + 1) 70 _ (0, 0) _ rfl j0 Try.underlying70 rfl info_spot (w.heap.size + 1 + 1) (.int .i64 6) rfl (load_errno _ _ _ (by rw [j1.cell]; rfl)), ?_⟩
    exact ⟨kb.trans (below_put W4 D (.deferred none) (by omega) kb.size), .inr ⟨HL.out, rfl⟩⟩
  case body =>
    rintro l pre ⟨x0, ⟨x1, x2⟩, s0, s1, s2⟩ a' W ⟨⟨hF, hsz, hpre, hl1, hl2⟩, ⟨f, hVf, hxf⟩, gf, hgf, hgl, rfl⟩
    have ha := hF.at_
    have hp := hF.place
    have g0 : W.cell? ⟨gf, 0, none⟩ = some (.int .i64 x1) := by rw [hgf.cell]; rfl
    have g1 : W.cell? ⟨gf, 1, none⟩ = some (.int .i64 x2) := by rw [hgf.cell]; rfl
    have p0 : W.cell? ⟨w.heap.size, 0, none⟩ = some (.int .i64 (i : Int)) := by rw [hp.cell]; rfl
    have hlen : pre.length < V.length := (List.getElem?_eq_some_iff.1 hVf).1
    have e0 : x0 = pre.length := congrArg Prod.fst hxf
    have e1 : ((x1, x2) : Pr) = f.p := congrArg (fun x => x.2.p) hxf
    obtain ⟨fp, fx⟩ := f
    simp only at e1
    subst e1
    have hnew : atC V (pre.length + 1) = #[.int .i64 x1, .int .i64 x2, .int .i64 (nth V pre.length (x1, x2) : Int)] := atC_succ hVf
    have hspot : ∃ (q1 q2 : Int) (k : Nat), atC V pre.length = #[.int .i64 q1, .int .i64 q2, .int .i64 (k : Int)] ∧ k ≤ 20000 ∧ ((q1 = x1 ∧ q2 = x2 → nth V pre.length (x1, x2) = k + 1) ∧ (¬ (q1 = x1 ∧ q2 = x2) → nth V pre.length (x1, x2) = 0)) := by
      have hmem := List.mem_of_getElem? hVf
      have hin := HV.out.2.1 _ hmem
      cases hpl : pre.length with
      | zero => exact ⟨0, 0, 0, rfl, by omega, fun hq => by have := hin.1; simp only at this; omega, fun _ => nth_zero _ _⟩
      | succ n =>
        have hn : n + 1 < V.length := by omega
        have hVn : V[n + 1] = ⟨(x1, x2), fx⟩ := by
          rw [hpl] at hVf
          rw [List.getElem?_eq_getElem hn] at hVf
          injection hVf
        have hs := nth_succ HV.out.1 n hn
        rw [hVn] at hs
        refine ⟨V[n].p.1, V[n].p.2, nth V n V[n].p, atC_succ (List.getElem?_eq_getElem (by omega)), ?_, fun hq => ?_, fun hq => ?_⟩
        · have h1 := lineOf_len (V.take n) V[n].p
          have h2 := HV.out.2.2
          rw [List.length_take] at h1
          unfold nth
          omega
        · rw [hs, if_pos (Prod.ext hq.1 hq.2)]
        · rw [hs, if_neg (fun e => hq ⟨congrArg Prod.fst e, congrArg Prod.snd e⟩)]
    obtain ⟨q1, q2, k, hat, hk2, hq1, hq2⟩ := hspot
    rw [hat] at ha
    have a0 : W.cell? ⟨w.heap.size + 1 + 1 + 1, 0, none⟩ = some (.int .i64 q1) := by rw [ha.cell]; rfl
    have a1 : W.cell? ⟨w.heap.size + 1 + 1 + 1, 1, none⟩ = some (.int .i64 q2) := by rw [ha.cell]; rfl
    have a2 : W.cell? ⟨w.heap.size + 1 + 1 + 1, 2, none⟩ = some (.int .i64 (k : Int)) := by rw [ha.cell]; rfl
    obtain ⟨X, hX⟩ : ∃ X, (W.setCell ⟨w.heap.size + 1 + 1 + 1, 2, none⟩ (.int .i64 ((k : Int) + 1))).alloc (.cells #[.int .i64 x1, .int .i64 x2] 61) = X := ⟨_, rfl⟩
    have hA : Blk X (w.heap.size + 1 + 1 + 1) 70 #[.int .i64 q1, .int .i64 q2, .int .i64 ((k : Int) + 1)] := by rw [← hX]; exact (ha.set_ 2 _).alloc _
    have hP : Blk X w.heap.size 3 #[.int .i64 (i : Int)] := by rw [← hX]; exact (hp.far (by simp; omega) _).alloc _
    have hO : Blk X W.heap.size 61 #[.int .i64 x1, .int .i64 x2] := by
      rw [← hX]
      have := Blk.new (W.setCell ⟨w.heap.size + 1 + 1 + 1, 2, none⟩ (.int .i64 ((k : Int) + 1))) 61 #[.int .i64 x1, .int .i64 x2]
      rwa [show (W.setCell ⟨w.heap.size + 1 + 1 + 1, 2, none⟩ (.int .i64 ((k : Int) + 1))).heap.size = W.heap.size by simp [World.setCell]] at this
    have o0 : X.cell? ⟨W.heap.size, 0, none⟩ = some (.int .i64 x1) := by rw [hO.cell]; rfl
    have o1 : X.cell? ⟨W.heap.size, 1, none⟩ = some (.int .i64 x2) := by rw [hO.cell]; rfl
    have hO3 : ¬ W.heap.size = w.heap.size + 1 + 1 + 1 := by omega
    have b0 : X.cell? ⟨w.heap.size + 1 + 1 + 1, 0, none⟩ = some (.int .i64 q1) := by rw [hA.cell]; rfl
    have b1 : X.cell? ⟨w.heap.size + 1 + 1 + 1, 1, none⟩ = some (.int .i64 q2) := by rw [hA.cell]; rfl
    have b2 : X.cell? ⟨w.heap.size, 0, none⟩ = some (.int .i64 (i : Int)) := by rw [hP.cell]; rfl
    have bb0 := b0
    have bb1 := b1
    rw [← hX] at bb0 bb1
    have z0 := ha.frozen 0
    have z1 := ha.frozen 1
    have z2 := ha.frozen 2
    subst e0
    have hlt2 : (pre.length : Int) ≤ 20000 := by have := HV.out.2.2; omega
    have HALL := Lib.hid (And.intro hF (And.intro hsz (And.intro hpre (And.intro hl2 (And.intro hlen (And.intro hVf (And.intro hgf (And.intro ha (And.intro hnew (And.intro hl1 (And.intro hxf hat)))))))))))
    generalize hpn : pre.length = n at hlt2 ⊢
    have HPN := Lib.hid hpn
    have HQ := Lib.hid (And.intro hq1 hq2)
    have HX := Lib.hid (And.intro hX (And.intro hA hP))
    clear hF hsz hpre hl2 hlen hVf hgf ha hnew hl1 hxf hat hq1 hq2 hp hpn hX hA hP
    have hgw : gf ≠ w.heap.size + 1 + 1 + 1 := by omega
    have HN := Lib.hid (show ∀ Y, W.grownBy Y (some (w.heap.size + 1 + 1 + 1)) → Blk Y (w.heap.size + 1 + 1 + 1) 70 #[.int .i64 x1, .int .i64 x2, .int .i64 (nth V n (x1, x2) : Int)] → n < i →
        KeepsFrom (w.heap.size + 5) W Y ∧ Kq (w.heap.size + 5) (fun k _ => k = w.heap.size + 1 + 1 + 1) W Y ∧ FI w b K V G i (pre ++ [(n, ⟨(x1, x2), (s0, s1, s2)⟩)]) Y from fun Y hg hbk hn => by
      obtain ⟨hF, hsz, hpre, hl2, hlen, hVf, hgf, ha, hnew, hl1, hxf, hat⟩ := HALL.out
      have hpn := HPN.out
      have hbl := HbL.out
      refine ⟨KeepsFrom.of_grownBy hg (fun j e => by injection e with e; omega), Kq.of_grown hg (fun _ _ => rfl), ?_⟩
      have hk : Keep (fun j => j = w.heap.size + 1 + 1 + 1) W Y := .of_grown hg (fun j e => by injection e with e; exact e.symm)
      have hpl : (pre ++ [((n, ⟨(x1, x2), (s0, s1, s2)⟩) : Pf)]).length = n + 1 := by rw [List.length_append, hpn]; rfl
      have hV1 : V.take (n + 1) = V.take n ++ [⟨(x1, x2), fx⟩] := by
        rw [List.take_succ_eq_append_getElem (by omega)]
        congr 1
        rw [hpn, List.getElem?_eq_getElem (by omega)] at hVf
        injection hVf with hVf
        rw [hVf]
      refine ⟨⟨Keep.below hF.bel hk hF.bel.size (fun j e => by omega), ⟨hF.ls.1.kept hk (fun c e => by injection e with e; omega) (fun j hj => by have := HgL.out j hj; omega), hk.cell hF.ls.2 (by show ¬ w.heap.size + 4 = w.heap.size + 1 + 1 + 1; omega)⟩, hF.place.kept hk (by omega), hF.spot.kept hk (by omega), hF.code.kept hk (by omega), ?_⟩, Nat.le_trans hsz hk.size, ?_, ?_, ?_⟩
      · rw [hpl, ← hpn, hnew, hpn]
        exact hbk
      · rw [hpl, hV1, enumF_snoc, ← hpn, ← hpre, List.length_take, Nat.min_eq_left hl2]
        rw [hpn] at hxf ⊢
        rw [← hxf]
      · rw [hpl]; omega
      · rw [hpl]; omega)
    have HR := Lib.hid (show ∀ Y, Keep (fun j => j = w.heap.size + 1 ∨ j = w.heap.size + 1 + 1 ∨ j = w.heap.size + 1 + 1 + 1) W Y → Blk Y (w.heap.size + 1) 70 #[.int .i64 x1, .int .i64 x2, .int .i64 (nth V n (x1, x2) : Int)] → Blk Y (w.heap.size + 1 + 1) 24 #[.int .i64 0] → ¬ n < i →
        KeepsFrom (w.heap.size + 5) W Y ∧ FX w V i .ret (pre ++ [(n, ⟨(x1, x2), (s0, s1, s2)⟩)]) Y from fun Y hk hb1 hb2 hn => by
      obtain ⟨hF, hsz, hpre, hl2, hlen, hVf, hgf, ha, hnew, hl1, hxf, hat⟩ := HALL.out
      have hpn := HPN.out
      have hni : n = i := by omega
      refine ⟨KeepsFrom.of_keep hk (fun j hj o ho => ?_), rfl, Keep.below hF.bel hk hF.bel.size (fun j hj => by omega), Nat.le_trans hsz hk.size, by omega, ?_, hb2⟩
      · rcases hj with rfl | rfl | rfl
        · have := hF.spot.symm.trans ho; injection this with this; rw [← this]; rfl
        · have := hF.code.symm.trans ho; injection this with this; rw [← this]; rfl
        · have := ha.symm.trans ho; injection this with this; rw [← this]; rfl
      · rw [← hni, ← hpn, hnew, hpn]
        exact hb1)
    have hSX : Blk X (w.heap.size + 1) 70 #[.int .i64 0, .int .i64 0, .int .i64 0] := by rw [← HX.out.1]; exact (HALL.out.1.spot.far (by simp) _).alloc _
    have hCX : Blk X (w.heap.size + 1 + 1) 24 #[.int .i64 0] := by rw [← HX.out.1]; exact (HALL.out.1.code.far (by simp) _).alloc _
    have y0 : X.cell? ⟨w.heap.size + 1, 0, none⟩ = some (.int .i64 0) := by rw [hSX.cell]; rfl
    have y1 : X.cell? ⟨w.heap.size + 1, 1, none⟩ = some (.int .i64 0) := by rw [hSX.cell]; rfl
    have y2 : X.cell? ⟨w.heap.size + 1, 2, none⟩ = some (.int .i64 0) := by rw [hSX.cell]; rfl
    have y3 : X.cell? ⟨w.heap.size + 1 + 1, 0, none⟩ = some (.int .i64 0) := by rw [hCX.cell]; rfl
    have b3 : X.cell? ⟨w.heap.size + 1 + 1 + 1, 2, none⟩ = some (.int .i64 ((k : Int) + 1)) := by rw [HX.out.2.1.cell]; rfl
    have v0 := hSX.frozen 0
    have v1 := hSX.frozen 1
    have v2 := hSX.frozen 2
    have v3 := hCX.frozen 0
    have v4 := HX.out.2.1.frozen 0
    have v5 := HX.out.2.1.frozen 1
    have v6 := HX.out.2.1.frozen 2
    have HXX := Lib.hid (And.intro hSX hCX)
    clear hSX hCX
    have hgX : W.grownBy X (some (w.heap.size + 1 + 1 + 1)) := by
      rw [← HX.out.1]
      exact (grown_setCell W _ 2 _).andThen (World.grownBy_alloc _ _ none) (fun j e => by cases e)
    have HG := Lib.hid hgX
    clear hgX
    have HFin := Lib.hid (show ∀ (A : World) (c : Int), Keep (fun j => j = w.heap.size + 1 + 1 + 1) W A → Blk A (w.heap.size + 1) 70 #[.int .i64 0, .int .i64 0, .int .i64 0] → Blk A (w.heap.size + 1 + 1) 24 #[.int .i64 0] → c = (nth V n (x1, x2) : Int) → ¬ n < i →
        KeepsFrom (w.heap.size + 5) W ((((A.setCell ⟨w.heap.size + 1, 0, none⟩ (.int .i64 x1)).setCell ⟨w.heap.size + 1, 1, none⟩ (.int .i64 x2)).setCell ⟨w.heap.size + 1, 2, none⟩ (.int .i64 c)).setCell ⟨w.heap.size + 1 + 1, 0, none⟩ (.int .i64 0)) ∧
        FX w V i .ret (pre ++ [(n, ⟨(x1, x2), (s0, s1, s2)⟩)]) ((((A.setCell ⟨w.heap.size + 1, 0, none⟩ (.int .i64 x1)).setCell ⟨w.heap.size + 1, 1, none⟩ (.int .i64 x2)).setCell ⟨w.heap.size + 1, 2, none⟩ (.int .i64 c)).setCell ⟨w.heap.size + 1 + 1, 0, none⟩ (.int .i64 0)) from fun A c hk h1 h2 hc hn => by
      refine HR.out _ ?_ ?_ ?_ hn
      · refine (hk.mono (T := fun j => j = w.heap.size + 1 ∨ j = w.heap.size + 1 + 1 ∨ j = w.heap.size + 1 + 1 + 1) (fun _ e => .inr (.inr e))).trans (T := fun j => j = w.heap.size + 1 ∨ j = w.heap.size + 1 + 1 ∨ j = w.heap.size + 1 + 1 + 1) ?_ (fun _ h => h) (fun _ _ h => h)
        refine (Keep.setCell A ⟨w.heap.size + 1, 0, none⟩ (.int .i64 x1) (.inl rfl)).trans (T := fun j => j = w.heap.size + 1 ∨ j = w.heap.size + 1 + 1 ∨ j = w.heap.size + 1 + 1 + 1) ?_ (fun _ h => h) (fun _ _ h => h)
        refine (Keep.setCell _ ⟨w.heap.size + 1, 1, none⟩ (.int .i64 x2) (.inl rfl)).trans (T := fun j => j = w.heap.size + 1 ∨ j = w.heap.size + 1 + 1 ∨ j = w.heap.size + 1 + 1 + 1) ?_ (fun _ h => h) (fun _ _ h => h)
        refine (Keep.setCell _ ⟨w.heap.size + 1, 2, none⟩ (.int .i64 c) (.inl rfl)).trans (T := fun j => j = w.heap.size + 1 ∨ j = w.heap.size + 1 + 1 ∨ j = w.heap.size + 1 + 1 + 1) ?_ (fun _ h => h) (fun _ _ h => h)
        exact Keep.setCell _ ⟨w.heap.size + 1 + 1, 0, none⟩ (.int .i64 0) (.inr (.inl rfl))
      · rw [← hc]
        exact (((h1.set_ 0 (.int .i64 x1)).set_ 1 (.int .i64 x2)).set_ 2 (.int .i64 c)).far (by simp) _
      · exact (((h2.far (by simp) _).far (by simp) _).far (by simp) _).set_ 0 (.int .i64 0))
    gi_upto_region 11 with fail
    rw [HX.out.1]
    by_cases hqq : q1 = x1 ∧ q2 = x2
    · obtain ⟨rfl, rfl⟩ := hqq
      have HE := Lib.hid (HQ.out.1 ⟨rfl, rfl⟩)
      have hAX := HX.out.2.1
      rw [show ((k : Int) + 1) = ((k + 1 : Nat) : Int) by omega, ← HE.out, HPN.out] at hAX
      have HA := Lib.hid hAX
      clear hAX
      by_cases hni : n < i
      · have hni' : decide ((n : Int) < (i : Int)) = true := decide_eq_true (by omega)
        gi_wp2
        exact HN.out X HG.out HA.out hni
      · have hni' : decide ((n : Int) < (i : Int)) = false := decide_eq_false (by omega)
        gi_wp2
        exact HFin.out X _ (.of_grown HG.out (fun j e => by injection e with e; exact e.symm)) HXX.out.1 HXX.out.2 (by rw [← HPN.out, HE.out]; omega) hni
    · have HE := Lib.hid (HQ.out.2 hqq)
      have hsp : (q1 ≠ x1) ∨ (q1 = x1 ∧ q2 ≠ x2) := by
        by_cases e : q1 = x1
        · exact .inr ⟨e, fun e2 => hqq ⟨e, e2⟩⟩
        · exact .inl e
      clear hqq
      by_cases hni : n < i
      · have hni' : decide ((n : Int) < (i : Int)) = true := decide_eq_true (by omega)
        rcases hsp with hd | ⟨rfl, hd⟩
        · gi_wp2
          have h3 : Blk (((X.setCell ⟨w.heap.size + 1 + 1 + 1, 0, none⟩ (.int .i64 x1)).setCell ⟨w.heap.size + 1 + 1 + 1, 1, none⟩ (.int .i64 x2)).setCell ⟨w.heap.size + 1 + 1 + 1, 2, none⟩ (.int .i64 0)) (w.heap.size + 1 + 1 + 1) 70 #[.int .i64 x1, .int .i64 x2, .int .i64 0] := ((HX.out.2.1.set_ 0 (.int .i64 x1)).set_ 1 (.int .i64 x2)).set_ 2 (.int .i64 0)
          have h4 : W.grownBy (((X.setCell ⟨w.heap.size + 1 + 1 + 1, 0, none⟩ (.int .i64 x1)).setCell ⟨w.heap.size + 1 + 1 + 1, 1, none⟩ (.int .i64 x2)).setCell ⟨w.heap.size + 1 + 1 + 1, 2, none⟩ (.int .i64 0)) (some (w.heap.size + 1 + 1 + 1)) := ((HG.out.trans (grown_setCell X _ 0 _)).trans (grown_setCell _ _ 1 _)).trans (grown_setCell _ _ 2 _)
          exact HN.out _ h4 (by rw [← HPN.out, HE.out]; exact h3) hni
        · gi_wp2
          have h3 : Blk (((X.setCell ⟨w.heap.size + 1 + 1 + 1, 0, none⟩ (.int .i64 q1)).setCell ⟨w.heap.size + 1 + 1 + 1, 1, none⟩ (.int .i64 x2)).setCell ⟨w.heap.size + 1 + 1 + 1, 2, none⟩ (.int .i64 0)) (w.heap.size + 1 + 1 + 1) 70 #[.int .i64 q1, .int .i64 x2, .int .i64 0] := ((HX.out.2.1.set_ 0 (.int .i64 q1)).set_ 1 (.int .i64 x2)).set_ 2 (.int .i64 0)
          have h4 : W.grownBy (((X.setCell ⟨w.heap.size + 1 + 1 + 1, 0, none⟩ (.int .i64 q1)).setCell ⟨w.heap.size + 1 + 1 + 1, 1, none⟩ (.int .i64 x2)).setCell ⟨w.heap.size + 1 + 1 + 1, 2, none⟩ (.int .i64 0)) (some (w.heap.size + 1 + 1 + 1)) := ((HG.out.trans (grown_setCell X _ 0 _)).trans (grown_setCell _ _ 1 _)).trans (grown_setCell _ _ 2 _)
          exact HN.out _ h4 (by rw [← HPN.out, HE.out]; exact h3) hni
      · have hni' : decide ((n : Int) < (i : Int)) = false := decide_eq_false (by omega)
        rcases hsp with hd | ⟨rfl, hd⟩
        · gi_wp2
          have h3 : Blk (((X.setCell ⟨w.heap.size + 1 + 1 + 1, 0, none⟩ (.int .i64 x1)).setCell ⟨w.heap.size + 1 + 1 + 1, 1, none⟩ (.int .i64 x2)).setCell ⟨w.heap.size + 1 + 1 + 1, 2, none⟩ (.int .i64 0)) (w.heap.size + 1 + 1 + 1) 70 #[.int .i64 x1, .int .i64 x2, .int .i64 0] := ((HX.out.2.1.set_ 0 (.int .i64 x1)).set_ 1 (.int .i64 x2)).set_ 2 (.int .i64 0)
          have h4 : W.grownBy (((X.setCell ⟨w.heap.size + 1 + 1 + 1, 0, none⟩ (.int .i64 x1)).setCell ⟨w.heap.size + 1 + 1 + 1, 1, none⟩ (.int .i64 x2)).setCell ⟨w.heap.size + 1 + 1 + 1, 2, none⟩ (.int .i64 0)) (some (w.heap.size + 1 + 1 + 1)) := ((HG.out.trans (grown_setCell X _ 0 _)).trans (grown_setCell _ _ 1 _)).trans (grown_setCell _ _ 2 _)
          exact HFin.out _ _ (.of_grown h4 (fun j e => by injection e with e; exact e.symm)) (((HXX.out.1.far (by simp) _).far (by simp) _).far (by simp) _) (((HXX.out.2.far (by simp) _).far (by simp) _).far (by simp) _) (by rw [← HPN.out, HE.out]; rfl) hni
        · gi_wp2
          have h3 : Blk (((X.setCell ⟨w.heap.size + 1 + 1 + 1, 0, none⟩ (.int .i64 q1)).setCell ⟨w.heap.size + 1 + 1 + 1, 1, none⟩ (.int .i64 x2)).setCell ⟨w.heap.size + 1 + 1 + 1, 2, none⟩ (.int .i64 0)) (w.heap.size + 1 + 1 + 1) 70 #[.int .i64 q1, .int .i64 x2, .int .i64 0] := ((HX.out.2.1.set_ 0 (.int .i64 q1)).set_ 1 (.int .i64 x2)).set_ 2 (.int .i64 0)
          have h4 : W.grownBy (((X.setCell ⟨w.heap.size + 1 + 1 + 1, 0, none⟩ (.int .i64 q1)).setCell ⟨w.heap.size + 1 + 1 + 1, 1, none⟩ (.int .i64 x2)).setCell ⟨w.heap.size + 1 + 1 + 1, 2, none⟩ (.int .i64 0)) (some (w.heap.size + 1 + 1 + 1)) := ((HG.out.trans (grown_setCell X _ 0 _)).trans (grown_setCell _ _ 1 _)).trans (grown_setCell _ _ 2 _)
          exact HFin.out _ _ (.of_grown h4 (fun j e => by injection e with e; exact e.symm)) (((HXX.out.1.far (by simp) _).far (by simp) _).far (by simp) _) (((HXX.out.2.far (by simp) _).far (by simp) _).far (by simp) _) (by rw [← HPN.out, HE.out]; rfl) hni
end
end Go.Proofs.Ytellbmghahgjfaa

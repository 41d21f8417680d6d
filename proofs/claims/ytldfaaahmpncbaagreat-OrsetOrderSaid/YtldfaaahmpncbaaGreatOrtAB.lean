/-
  The keys of a set, gathered out of its map: maps.Values, slices.Collect.
-/
import Derived.Test.YtldfaaahmpncbaaGreatOrtAA
import Derived.Test.YtldfaaahmpncbaaGreatOrsAC
import Derived.Test.YtldfaaahmpncbaaGreatOrsAB
namespace Go.Proofs.YtldfaaahmpncbaaGreat
open Go.RowKit Go.Maps Go.Sort
open CtxM
set_option linter.unusedVariables false
set_option linter.unusedSimpArgs false
set_option maxRecDepth 100000
attribute [local go_sem] Oper.semAt_some

/-- Keys. -/
def kKy : Kd Ky where
  ty := 39
  sz := 2
  by_ := 32
  zero := .agg #[.string ⟨#[]⟩, .string ⟨#[]⟩]
  en k := [.string k.1, .string k.2]
  len _ := rfl
  one i u hu := by
    simp at hu
    rcases hu with rfl | rfl <;> rfl
  pos := by decide
  zs := rfl
theorem info_ky : (Tryz.prog.info? 39).map (fun i => (i.zero, i.size, i.bytes)) = some (some (.agg #[.string ⟨#[]⟩, .string ⟨#[]⟩]), 2, 32) := by kernel_rfl
def encKy (k : Ky) : Array Value := #[keyV k]
/-- All entries' values have come. -/
def AllV (L : Kl) (ss : List Ky) : Prop := ∃ ds, AllD L ds ∧ ss = ds.map (keyAt L)
theorem wpListIn_append_k {α : Type} {k : Kd α} {F : Fence} {nF : Nat} {P : Program} {w : World} {ops : Array Oper} {rest : List Oper} {o : Oper} {a : Act} {Q : Exit → Act → World → Prop} (hgd : o.guard = none) (s x : Operand) (t : TypeId)
    (ho : o.op = .call { callee := .builtin .append, args := #[s, x], argTypes := #[t, t] })
    (base : Nat) (i : TypeInfo) (ht : P.underlying t = some (.slice k.ty)) (hi : P.info? k.ty = some i) (hz : i.zero = some k.zero)
    (hsize : i.size = k.sz) (hby : i.bytes = k.by_) (v : Value) (l : List α) (hs : a.eval s = v) (hown : OwnK k w base v l) (v2 : Value) (m : List α) (hx : a.eval x = v2) (hm : SlK k w v2 m) (h63 : l.length + m.length ≤ maxLen) (hlen : (l.length + m.length) * k.by_ ≤ 140737488355328) (hbase : base ≤ w.heap.size)
    (h : ∀ v' w', OwnK k w' base v' (l ++ m) → w.grownBy w' v.ownBlock → Newer w.heap.size v v' → wpListIn F nF P ops Q rest (a.put o.dst v') w') :
    wpListIn F nF P ops Q (o :: rest) a w := by
  refine wpListIn_plain hgd fun K hK => ?_
  obtain ⟨v', w', hr, h2, h3, h5⟩ := run_append_k (P := P) w base t o.type i ht hi hz hsize hby v l hown v2 m hm h63 hlen hbase
  unfold Oper.wpIn
  refine ⟨by simp [Oper.about, ho, resolve, Target.leads, Sem.run_pure], ?_⟩
  rw [Oper.semAt_plain F _ _ (by rw [ho]; intro c hc'; cases hc')]
  simp [execOp, ho, resolve, invoke, builtin, hs, hx, hr, Result.andThen]
  exact hK _ _ (h v' w' h2 h3 h5)
theorem OwnK.blk {α : Type} {k : Kd α} {w : World} {base : Nat} {v : Value} {L : List α} (h : OwnK k w base v L) : ∀ j, v.ownBlock = some j → ∃ cs, Blk w j k.ty cs := by
  intro j hk
  rcases h.2 with ⟨rfl, _⟩ | ⟨g, cap, cur, rfl, _, hgb, _⟩
  · simp [Value.ownBlock] at hk
  · have : g = j := by simpa [Value.ownBlock] using hk
    subst this; exact ⟨cur, hgb⟩
theorem OwnK.shape3 {α : Type} {k : Kd α} {w : World} {base : Nat} {v : Value} {L : List α} (h : OwnK k w base v L) : ∃ A n c, v = .slice A n c := by obtain ⟨A, c, e⟩ := h.shape; exact ⟨A, _, c, e⟩
theorem OwnK.put_ {α : Type} {k : Kd α} {w : World} {base : Nat} {v : Value} {L : List α} (h : OwnK k w base v L) {l : Nat} {o : Obj} (hl : w.heap[l]? = some o) (hc : o.isCells = false) (o' : Obj) : OwnK k (w.putObj l o') base v L :=
  h.keep fun j hk => by
    obtain ⟨cs, hb⟩ := h.blk j hk
    have := hb.put_ hl hc o'
    unfold Blk at hb this
    rw [hb, this]
theorem StM.ownK {α : Type} {k : Kd α} {B base : Nat} {A C : World} (h : StM B A C) {v : Value} {L : List α} (ho : OwnK k A base v L) : OwnK k C base v L :=
  ho.keep fun j hk => by
    obtain ⟨cs, hb⟩ := ho.blk j hk
    have := h.blk hb
    unfold Blk at hb this
    rw [hb, this]
/-- What has been gathered: s stands in a box at g, its row from 'hi' on. -/
def ApY (w0 : World) (g hi : Nat) (pre : List Ky) (W : World) : Prop :=
  Below w0.heap.size w0 W ∧ hi ≤ W.heap.size ∧ ∃ v, Blk W g 73 #[v] ∧ OwnK kKy W hi v pre
theorem ApY.abs {w0 : World} {g hi B : Nat} (hB : w0.heap.size ≤ B) : Abs B (StM w0.heap.size) (ApY w0 g hi) := by
  refine ⟨?_, ?_, ?_⟩
  · rintro pre W l o o' ⟨hb, hs, v, b1, ho⟩ hl hlo hc _
    exact ⟨hb.grown (grown_put W l o') hb.size (fun k e => by injection e with e; omega), Nat.le_trans hs (grown_put W l o').size, v, b1.put_ hlo hc o', ho.put_ hlo hc o'⟩
  · rintro pre W o ⟨hb, hs, v, b1, ho⟩
    exact ⟨hb.alloc hb.size _, Nat.le_trans hs (by simp), v, b1.alloc _, ho.alloc _⟩
  · rintro pre A C ⟨hb, hs, v, b1, ho⟩ hst
    have hsz : A.heap.size ≤ C.heap.size := (StM.quiet _ A C hst).1
    exact ⟨StM.below hb hst (Nat.le_refl _) hb.size, Nat.le_trans hs hsz, v, hst.blk b1, hst.ownK ho⟩

set_option maxHeartbeats 8000000 in
theorem appendSeqY_any {gf : Nat} {lb : Array Value} (eg : ∀ args w, (callFunc gf args).run Tryz.prog w = .ok (.enter gf args) w) {S : List Ky → Prop} {N : Nat} (hN : N ≤ 900000) (w : World)
    (hseq : SeqX Fence.wide 7 Tryz.prog gf lb encKy (fun x _ => True) (StM w.heap.size) KeepsWalks S (fun _ => True) N w) :
    Calls Tryz.prog 124 #[.slice none 0 0, .func (.func gf) #[] lb] w fun e w' => ∃ v ss, e = .returned v ∧ S ss ∧ OwnK kKy w' w.heap.size v ss ∧ Below w.heap.size w w' := by
  obtain ⟨i0, hi, hy0, hy1, hy2⟩ := info_parts info_ky
  refine (callsIn_wide (n := 8)).1 ?_
  refine callsIn_of_wp_marks Tryz.func124 rfl trivial ?_ rfl
  simp only [Tryz.ntmps124, List.size_toArray, List.length_cons, List.length_nil, Nat.reduceAdd, Nat.reduceSub, Array.replicate_succ, Array.replicate_zero, List.push_toArray, List.append_toArray, List.nil_append, List.cons_append]
  have HI0 := Lib.hid (show ApY w w.heap.size (w.heap.size + 1) [] (w.alloc (.cells #[.slice none 0 0] 73)) from ⟨(Below.refl _ _).alloc (Nat.le_refl _) _, by simp, _, Blk.new _ _ _, OwnK.nil⟩)
  have hbw : Below w.heap.size w (w.alloc (.cells #[.slice none 0 0] 73)) := (Below.refl _ _).alloc (Nat.le_refl _) _
  have hsz1 : (w.alloc (.cells #[.slice none 0 0] 73)).heap.size = w.heap.size + 1 := by simp
  gi_wp2_with fail
  generalize w.alloc (.cells #[.slice none 0 0] 73) = w1 at HI0 hbw hsz1 ⊢
  refine' range_y rfl (by omega) (gf := gf) (lb := lb) rfl trivial eg hseq (StM.quiet _) (fun {A B C} h k => h.trans k) ?hKb hbw (fun _ => rfl) (fun x W l o o' hx _ _ => hx)
    (ApY w w.heap.size (w.heap.size + 1)) (fun _ _ _ => False) (ApY.abs (by omega)) (fun _ => ⟨fun _ _ _ _ _ h => h.elim, fun _ _ _ h => h.elim, fun _ _ _ h => h.elim⟩) HI0.out
    (fun pre x a' W => ApY w w.heap.size (w.heap.size + 1) pre W ∧ pre.length < N ∧ ∃ gd, Blk W gd 39 #[.string x.1, .string x.2] ∧ a' = { tmps := #[.slice none 0 0, .func (.func gf) #[] lb, .pointer (some ⟨w.heap.size, 0, none⟩), undef, .slice none 0 0, .pointer (some ⟨gd, 0, none⟩), .func (.func gf) #[] lb, .agg #[.string x.1, .string x.2], undef, undef, undef, undef, undef], defers := [] })
    ?hRb ?assign ?body ?done ?stop
  case hKb =>
    intro W l o o' hl ho hc hw
    exact KeepsWalks.putObj _ ho hw
  case hRb =>
    rintro pre x a' W l o o' ⟨h1, h3, gd, h2, rfl⟩ hl ho hc hw
    exact ⟨(ApY.abs (B := w1.heap.size) (by omega)).book _ _ _ _ _ h1 hl ho hc hw, h3, gd, h2.put_ ho hc o', rfl⟩
  case assign =>
    rintro l pre ⟨x1, x2⟩ W K hI hX hlen hK
    simp only [encKy, keyV]
    gi_wp2
    refine hK _ _ ?_ ?_ ?_
    · exact KeepsFrom.of_keep (S := fun _ => False) (Keep.of_below ((Below.refl _ _).alloc (Nat.le_refl _) _)) (fun k h => h.elim)
    · exact KeepsWalks.alloc _ _
    · exact ⟨(ApY.abs (B := w1.heap.size) (by omega)).more _ _ _ hI, hlen, _, Blk.new _ _ _, rfl⟩
  case stop =>
    intro D c pre W hD' _ h _
    exact h.elim
  case body =>
    rintro l pre ⟨x1, x2⟩ a' W ⟨hI, hlen, gd, hgd, rfl⟩
    obtain ⟨hb, hs, v, b1, ho⟩ := hI
    replace hgd : Blk W gd 39 #[.string x1, .string x2] := hgd
    obtain ⟨Av, nv, cv, rfl⟩ := ho.shape3
    have q1 : W.cell? ⟨w.heap.size, 0, none⟩ = some (.slice Av nv cv) := by rw [b1.cell]; rfl
    have c0 : W.cell? ⟨gd, 0, none⟩ = some (.string x1) := by rw [hgd.cell]; rfl
    have c1 : W.cell? ⟨gd, 1, none⟩ = some (.string x2) := by rw [hgd.cell]; rfl
    have hSd := SlK.one (k := kKy) W ((x1, x2) : Ky) #[.string x1, .string x2] rfl
    have hoa := ho.alloc (.cells #[.string x1, .string x2] 39)
    have hl6 : pre.length + [((x1, x2) : Ky)].length ≤ maxLen := by simp [maxLen]; omega
    have hl7 : (pre.length + [((x1, x2) : Ky)].length) * kKy.by_ ≤ 140737488355328 := by simp [kKy]; omega
    have hbs : w.heap.size + 1 ≤ (W.alloc (.cells #[.string x1, .string x2] 39)).heap.size := by simp; omega
    have HALL := Lib.hid (And.intro hb (And.intro hs (And.intro b1 ho)))
    have HOA := Lib.hid hoa
    have HSD := Lib.hid hSd
    clear hb hs b1 ho hoa hSd hgd
    gi_wp2_with (gi_at_builtin; refine wpListIn_append_k (k := kKy) rfl _ _ 73 rfl (w.heap.size + 1) i0 Tryz.underlying73 hi hy0 hy1 hy2 _ pre rfl HOA.out _ [((x1, x2) : Ky)] rfl HSD.out hl6 hl7 hbs ?_)
    intro v' w3 ho3 hg3 hnew
    obtain ⟨hb, hs, b1, ho⟩ := HALL.out
    obtain ⟨ob, hob⟩ : ∃ ob, ob = (Value.slice Av nv cv).ownBlock := ⟨_, rfl⟩
    rw [← hob] at hg3
    have hrow : ∀ k, ob = some k → w.heap.size + 1 ≤ k ∧ ∃ cs, Blk W k 39 cs := fun k e => ⟨(ho.lt k (by rw [← hob]; exact e)).1, ho.blk k (by rw [← hob]; exact e)⟩
    have k1 : Keep (fun i => ob = some i) W w3 := (Keep.of_below ((Below.refl _ _).alloc (Nat.le_refl _) _)).trans (Keep.of_grown hg3 (fun k e => e)) (fun _ h => h) (fun _ _ h => h)
    have hnb : ¬ ob = some w.heap.size := fun e => by have := (hrow _ e).1; omega
    have b3 := b1.kept k1 hnb
    have p3 : w3.cell? ⟨w.heap.size, 0, none⟩ = some (.slice Av nv cv) := by rw [b3.cell]; rfl
    have g3 := b3.frozen 0
    obtain ⟨A', n', c', rfl⟩ := ho3.shape3
    have k2 : Keep (fun i => i = w.heap.size ∨ ob = some i) W (w3.setCell ⟨w.heap.size, 0, none⟩ (.slice A' n' c')) := (k1.mono (fun i h => .inr h)).trans (Keep.setCell w3 _ _ (.inl rfl)) (fun _ h => h) (fun _ _ h => h)
    have b4 := b3.set_ 0 (.slice A' n' c')
    have ho4 : OwnK kKy (w3.setCell ⟨w.heap.size, 0, none⟩ (.slice A' n' c')) (w.heap.size + 1) (.slice A' n' c') (pre ++ [(x1, x2)]) := ho3.keep fun k hk => Below.heap_setCell _ _ _ k (by have := (ho3.lt k hk).1; show k ≠ w.heap.size; omega)
    have hobj : ∀ k, (k = w.heap.size ∨ ob = some k) → ∃ t cs, Blk W k t cs := fun k e => by
      rcases e with rfl | e
      · exact ⟨_, _, b1⟩
      · obtain ⟨cs, h⟩ := (hrow k e).2
        exact ⟨_, cs, h⟩
    have HFIN := Lib.hid (show KeepsFrom w1.heap.size W (w3.setCell ⟨w.heap.size, 0, none⟩ (.slice A' n' c')) ∧ KeepsWalks W (w3.setCell ⟨w.heap.size, 0, none⟩ (.slice A' n' c')) ∧ ApY w w.heap.size (w.heap.size + 1) (pre ++ [(x1, x2)]) (w3.setCell ⟨w.heap.size, 0, none⟩ (.slice A' n' c')) from
      ⟨KeepsFrom.of_keep k2 (fun k e o ho => by
          obtain ⟨t, cs, h⟩ := hobj k e
          unfold Blk at h
          rw [h] at ho; cases ho; rfl),
        KeepsWalks.of_keep k2 (fun k e o ho => by
          obtain ⟨t, cs, h⟩ := hobj k e
          unfold Blk at h
          rw [h] at ho; cases ho; rfl),
        Keep.below hb k2 hb.size (fun i e => by
          rcases e with rfl | e
          · exact Nat.le_refl _
          · have := (hrow _ e).1; omega), Nat.le_trans hs k2.size, _, b4, ho4⟩)
    clear hobj ho4 b4 k2 b3 k1 hrow hob hg3 ho3 hb hs b1 ho hnew hnb
    gi_wp2
    exact HFIN.out
  case done =>
    rintro D xs W hD' hxs hI hKd
    obtain ⟨hb, hs, v, b1, ho⟩ := hI
    obtain ⟨Av, nv, cv, rfl⟩ := ho.shape3
    have q1 : W.cell? ⟨w.heap.size, 0, none⟩ = some (.slice Av nv cv) := by rw [b1.cell]; rfl
    have HK := Lib.hid hKd
    have HE := Lib.hid (show OwnK kKy (W.putObj D (.deferred none)) w.heap.size (.slice Av nv cv) xs ∧ Below w.heap.size w (W.putObj D (.deferred none)) from ⟨(ho.put_ hKd rfl _).mono (by omega), hb.grown (grown_put W D _) hb.size (fun k e => by injection e with e; omega)⟩)
    clear hb hs b1 ho hKd
    gi_wp2
    refine ⟨by simp, .inl ⟨_, _, rfl, run_takeDeferred HK.out, ?_⟩⟩
    refine ⟨_, results_tmp rfl _ _ _, ?_⟩
    exact ⟨.slice Av nv cv, xs, rfl, hxs, HE.out⟩

theorem collectY_any {gf : Nat} {lb : Array Value} (eg : ∀ args w, (callFunc gf args).run Tryz.prog w = .ok (.enter gf args) w) {S : List Ky → Prop} {N : Nat} (hN : N ≤ 900000) (w : World)
    (hseq : SeqX Fence.wide 7 Tryz.prog gf lb encKy (fun x _ => True) (StM w.heap.size) KeepsWalks S (fun _ => True) N w) :
    Calls Tryz.prog 104 #[.func (.func gf) #[] lb] w fun e w' => ∃ v ss, e = .returned v ∧ S ss ∧ OwnK kKy w' w.heap.size v ss ∧ Below w.heap.size w w' := by
  have HA := Lib.hid (appendSeqY_any eg hN w hseq)
  clear hseq
  go_enter Tryz.func104, Tryz.ntmps104
  go_wp2_with fail
  refine HA.out.mono ?_
  rintro e w1 ⟨v, ss, rfl, h1, h2, h3⟩
  have H := Lib.hid (And.intro h1 (And.intro h2 h3))
  obtain ⟨A, n, c, rfl⟩ := h2.shape3
  clear h1 h2 h3
  go_wp2
  go_ret
  exact ⟨_, ss, rfl, H.out⟩
theorem enter_valsK : ∀ args w, (callFunc 106 args).run Tryz.prog w = .ok (.enter 106 args) w := fun _ _ => by kernel_rfl
set_option maxHeartbeats 4000000 in
theorem valsK_in (n : Nat) (hn1 : 1 ≤ n) (l Bm b nn : Nat) {L : List (Dt × Ky)} (hL : OkL L) (J Jx : List Ky → World → Prop) (W : World) (B0 : Nat) (hB0 : B0 ≤ W.heap.size)
    (hJ : ∀ s A B, J s A → StM B0 A B → J s B)
    (hY : ∀ pre x W1, J pre W1 → True → pre.length < L.length → YieldAt Fence.wide (n - 1) Tryz.prog l (encKy x) W1 fun e W' => (e = .returned (.bool true) ∧ J (pre ++ [x]) W' ∧ KeepsWalks W1 W') ∨ (e = .returned (.bool false) ∧ Jx (pre ++ [x]) W'))
    (hm : W.cell? ⟨Bm, 0, none⟩ = some (.map (some b))) (hown : W.ownsMap Tryz.prog 41 keyR b nn (MD keyD L)) (h0 : J [] W) :
    CallsIn Fence.wide n Tryz.prog 106 #[.func (.yield l) #[] #[], .pointer (some ⟨Bm, 0, none⟩)] W fun e W' => (∃ v, e = .returned v) ∧
      ((∃ ss : List Ky, AllV L ss ∧ J ss W') ∨ (∃ pre : List Ky, True ∧ Jx pre W')) := by
  refine callsIn_of_wp Tryz.func106 rfl trivial ?_ rfl
  simp only [Tryz.ntmps106, List.size_toArray, List.length_cons, List.length_nil, Nat.reduceAdd, Nat.reduceSub, Array.replicate_succ, Array.replicate_zero, List.push_toArray, List.append_toArray, List.nil_append, List.cons_append]
  gi_wp2_with (first
    | (gi_at_range; refine wpListIn_range_own _ rfl _ 81 rfl 41 39 dotK Tryz.underlying81 _ b nn _ rfl hown ?_; intro w0 hrg0 hg0 hs0)
    | gi_in)
  go_frame
  gi_loopw [] (fun wr => ∃ (left : Lit → Bool) (cnt : Nat) (ss : List Dt), wr.ranges Tryz.prog 41 keyR b W.heap.size nn (MD keyD L) left cnt ∧ ss.length + cnt ≤ L.length ∧ Come L left ss ∧ J (ss.map (keyAt L)) wr)
    (fun wr => wr.rangeLeft b W.heap.size)
  case atStart =>
    exact ⟨_, _, [], hrg0, by rw [size_MD]; simp, Come.start hL, hJ [] W w0 h0 (.none hg0)⟩
  case round =>
    obtain ⟨left, cnt, ss, hrg, hcs, hC, hJs⟩ := hrel
    gi_wp2_with (first
      | (gi_at_next; refine wpListIn_next_ranges _ rfl _ rfl 41 dotK keyR (id : Value → Value) id (fun key kl hk => ⟨key, rfl⟩) (fun v _ _ => ⟨v, rfl⟩) b W.heap.size nn _ _ _ rfl hrg ?_ ?_)
      | gi_in)
    · intro hc0 hl0
      gi_wp2
      go_end0
      exact ⟨⟨_, rfl⟩, .inl ⟨_, ⟨ss, hC.all hl0, rfl⟩, hJs⟩⟩
    · intro x c kl yd yp w2 cnt2 hkey hlk hv hat hrg2 hlt hg2 hs2 hen
      obtain ⟨p, hp, rfl, rfl⟩ := key_of_has hL hkey (has_true_of_atKey hat)
      have hJ2 : J (ss.map (keyAt L)) w2 := hJ _ wr w2 hJs ⟨_, hg2, fun r e => by cases e; exact ⟨hB0, hrg.iter_walk⟩⟩
      have hC2 := hC.step hL hp hlk
      clear hs2
      obtain ⟨k', rfl, e⟩ := keyR_inv hv
      injection e with e _
      have hkq : k' = p.2 := by
        have h3 := atKey_MD (R := keyD) hL (show (p.1, p.2) ∈ L from hp) yd
        rw [hat yd, e] at h3
        exact keyD_inj h3
      subst hkq
      obtain ⟨⟨d1, d2⟩, ⟨kt, ku⟩⟩ := p
      have hkk : keyAt L (d1, d2) = (kt, ku) := keyAt_of hL hp
      have hen2 : (Instr.entry (.pointer (some ⟨W.heap.size, 0, none⟩))).run Tryz.prog w2 = .ok (.tuple #[.agg #[.int .i64 d1, .int .u64 (d2 : Int)], .agg #[.string kt, .string ku]]) w2 := hen
      have hJ3 : J (ss.map (keyAt L)) (w2.alloc (.cells #[.string kt, .string ku] 39)) := hJ _ _ _ hJ2 (.none (World.grownBy_alloc _ _ none))
      have hrg3 := hrg2.kept (World.grownBy_alloc w2 (.cells #[.string kt, .string ku] 39) none) (by simp) (by simp)
      obtain ⟨fn, tmps, assign, body, hy, hR⟩ := hY (ss.map (keyAt L)) (kt, ku) _ hJ3 trivial (by rw [List.length_map]; omega)
      simp only [encKy, keyV] at hy
      have hms : (ss ++ [((d1, d2) : Dt)]).map (keyAt L) = ss.map (keyAt L) ++ [((kt, ku) : Ky)] := by rw [List.map_append, ← hkk]; rfl
      clear hen e hat hv
      gi_wp2
      refine hR.mono ?_
      rintro e W3 (⟨rfl, hJ4, hk4⟩ | ⟨rfl, hJx4⟩)
      · gi_wp2
        have hrg4 := hrg3.of_walks hk4
        go_roundw
        case rel => exact ⟨_, cnt2, ss ++ [(d1, d2)], hrg4, by simp; omega, hC2, by rw [hms]; exact hJ4⟩
        case measure => rw [hrg4.left_eq, hrg.left_eq]; exact hlt
      · gi_wp2
        refine bodyPost_ret (results_none rfl _ _ _) rfl ?_
        exact ⟨⟨_, rfl⟩, .inr ⟨_, trivial, hJx4⟩⟩
theorem valsK_seq (n : Nat) (hn1 : 1 ≤ n) (Bm b nn : Nat) {L : List (Dt × Ky)} (hL : OkL L) (w : World) (hm : w.cell? ⟨Bm, 0, none⟩ = some (.map (some b))) (hown : w.ownsMap Tryz.prog 41 keyR b nn (MD keyD L)) :
    SeqX Fence.wide n Tryz.prog 106 #[.pointer (some ⟨Bm, 0, none⟩)] encKy (fun x _ => True) (StM w.heap.size) KeepsWalks (AllV L) (fun _ => True) L.length w := by
  intro l J Jx W hW hJ hJx hY h0
  have hown' : W.ownsMap Tryz.prog 41 keyR b nn (MD keyD L) := by
    have hbl := hown.lt
    obtain ⟨es, clock, hb, Ft, hs, hD⟩ := hown
    exact ⟨es, clock, (hW.block b hbl).trans hb, Ft, hs, hD⟩
  exact valsK_in n hn1 l Bm b nn hL J Jx W w.heap.size hW.size hJ hY ((hW.cell (World.block_lt_of_cell? w _ hm)).trans hm) hown' h0
theorem valsK_any (mb : Option Nat) (w : World) : Calls Tryz.prog 81 #[.map mb] w fun e w' => e = .returned (.func (.func 106) #[] #[.pointer (some ⟨w.heap.size, 0, none⟩)]) ∧ w' = w.alloc (.cells #[.map mb] 81) := by
  have hmf : ∀ (fn : Fn) (first cap : Array Value) (w : World), (Instr.makeFunc fn first cap).run Tryz.prog w = .ok (.func fn first cap) w := fun _ _ _ _ => rfl
  go_enter Tryz.func81, Tryz.ntmps81
  go_wp2
  go_ret
  exact ⟨rfl, rfl⟩
/-- All keys of a map, gathered. -/
theorem gatherV_any (b nn : Nat) {L : List (Dt × Ky)} (hL : OkL L) (hN : L.length ≤ 900000) (w : World) (hown : w.ownsMap Tryz.prog 41 keyR b nn (MD keyD L)) :
    Calls Tryz.prog 104 #[.func (.func 106) #[] #[.pointer (some ⟨w.heap.size, 0, none⟩)]] (w.alloc (.cells #[.map (some b)] 81)) fun e w' => ∃ v ss, e = .returned v ∧ AllV L ss ∧ OwnK kKy w' (w.heap.size + 1) v ss ∧ Below w.heap.size w w' := by
  have hb0 : Below w.heap.size w (w.alloc (.cells #[.map (some b)] 81)) := (Below.refl _ _).alloc (Nat.le_refl _) _
  refine (collectY_any enter_valsK hN _ (valsK_seq 7 (by omega) w.heap.size b nn hL _ ?_ ?_)).mono ?_
  · exact (Blk.new w _ _).cell 0
  · exact ownsMap_below hown hb0
  · rintro e w' ⟨v, ss, rfl, h1, h2, h3⟩
    rw [show (w.alloc (.cells #[.map (some b)] 81)).heap.size = w.heap.size + 1 by simp] at h2 h3
    exact ⟨v, ss, rfl, h1, h2, hb0.trans (h3.mono (by omega))⟩
end Go.Proofs.YtldfaaahmpncbaaGreat

namespace Go.Proofs.YtldfaaahmpncbaaGreat
open Go.RowKit
open CtxM
set_option linter.unusedVariables false
set_option linter.unusedSimpArgs false
set_option maxRecDepth 20000

/-! Bytes in order. -/
theorem cmpB_self : ∀ a : List UInt8, Lib.compareBytes a a = 0
  | [] => rfl
  | x :: a => by
    unfold Lib.compareBytes
    rw [if_neg (UInt8.lt_irrefl x), if_neg (UInt8.lt_irrefl x)]
    exact cmpB_self a
theorem cmpB_zero : ∀ a b : List UInt8, Lib.compareBytes a b = 0 → a = b
  | [], [], _ => rfl
  | [], _ :: _, h => by simp [Lib.compareBytes] at h
  | _ :: _, [], h => by simp [Lib.compareBytes] at h
  | x :: a, y :: b, h => by
    unfold Lib.compareBytes at h
    split at h
    · cases h
    · split at h
      · cases h
      · rename_i h1 h2
        have : x = y := UInt8.le_antisymm (UInt8.not_lt.1 h2) (UInt8.not_lt.1 h1)
        rw [this, cmpB_zero a b h]
theorem cmpB_flip : ∀ a b : List UInt8, Lib.compareBytes b a = - Lib.compareBytes a b
  | [], [] => rfl
  | [], _ :: _ => rfl
  | _ :: _, [] => rfl
  | x :: a, y :: b => by
    unfold Lib.compareBytes
    by_cases h1 : x < y
    · have h2 : ¬ y < x := UInt8.lt_asymm h1
      rw [if_neg h2, if_pos h1, if_pos h1]; rfl
    · by_cases h2 : y < x
      · rw [if_pos h2, if_neg h1, if_pos h2]
      · rw [if_neg h2, if_neg h1, if_neg h1, if_neg h2]
        exact cmpB_flip a b
theorem cmpB_trans : ∀ a b c : List UInt8, Lib.compareBytes a b < 0 → Lib.compareBytes b c < 0 → Lib.compareBytes a c < 0
  | [], [], _, h, _ => by simp [Lib.compareBytes] at h
  | [], _ :: _, [], _, h => by simp [Lib.compareBytes] at h
  | [], _ :: _, _ :: _, _, _ => by simp [Lib.compareBytes]
  | _ :: _, [], _, h, _ => by simp [Lib.compareBytes] at h
  | _ :: _, _ :: _, [], _, h => by simp [Lib.compareBytes] at h
  | x :: a, y :: b, z :: c, h, k => by
    unfold Lib.compareBytes at h k ⊢
    by_cases h1 : x < y
    · by_cases k1 : y < z
      · rw [if_pos (UInt8.lt_trans h1 k1)]; decide
      · by_cases k2 : z < y
        · rw [if_neg k1, if_pos k2] at k; exact absurd k (by decide)
        · have : y = z := UInt8.le_antisymm (UInt8.not_lt.1 k2) (UInt8.not_lt.1 k1)
          rw [← this, if_pos h1]; decide
    · by_cases h2 : y < x
      · rw [if_neg h1, if_pos h2] at h; exact absurd h (by decide)
      · have e : x = y := UInt8.le_antisymm (UInt8.not_lt.1 h2) (UInt8.not_lt.1 h1)
        subst e
        rw [if_neg h1, if_neg h1] at h
        by_cases k1 : x < z
        · rw [if_pos k1]; decide
        · by_cases k2 : z < x
          · rw [if_neg k1, if_pos k2] at k; exact absurd k (by decide)
          · rw [if_neg k1, if_neg k2] at k ⊢
            exact cmpB_trans a b c h k
theorem cB_self (a : ByteArray) : cB a a = 0 := cmpB_self _
theorem cB_zero {a b : ByteArray} (h : cB a b = 0) : a = b := ByteArray.ext (Array.toList_inj.mp (cmpB_zero _ _ h))
theorem cB_flip (a b : ByteArray) : cB b a = - cB a b := cmpB_flip _ _
theorem cB_trans {a b c : ByteArray} (h : cB a b < 0) (k : cB b c < 0) : cB a c < 0 := cmpB_trans _ _ _ h k
/-- One key stands ahead of another one. -/
def LtY (a b : Ky) : Prop := cB a.1 b.1 < 0 ∨ (a.1 = b.1 ∧ cB a.2 b.2 < 0)
instance (a b : Ky) : Decidable (LtY a b) := by unfold LtY; infer_instance
theorem LtY.irrefl (a : Ky) : ¬ LtY a a := by
  unfold LtY
  rw [cB_self, cB_self]
  rintro (h | ⟨_, h⟩) <;> exact absurd h (by decide)
theorem LtY.trans {a b c : Ky} (h : LtY a b) (k : LtY b c) : LtY a c := by
  rcases h with h | ⟨h1, h2⟩
  · rcases k with k | ⟨k1, k2⟩
    · exact .inl (cB_trans h k)
    · exact .inl (k1 ▸ h)
  · rcases k with k | ⟨k1, k2⟩
    · exact .inl (h1 ▸ k)
    · exact .inr ⟨h1.trans k1, cB_trans h2 k2⟩
theorem LtY.tri (a b : Ky) : LtY a b ∨ a = b ∨ LtY b a := by
  rcases Int.lt_trichotomy (cB a.1 b.1) 0 with h | h | h
  · exact .inl (.inl h)
  · have e := cB_zero h
    rcases Int.lt_trichotomy (cB a.2 b.2) 0 with k | k | k
    · exact .inl (.inr ⟨e, k⟩)
    · exact .inr (.inl (Prod.ext e (cB_zero k)))
    · exact .inr (.inr (.inr ⟨e.symm, by rw [cB_flip]; omega⟩))
  · exact .inr (.inr (.inl (by rw [cB_flip]; omega)))
theorem LtY.asymm {a b : Ky} (h : LtY a b) : ¬ LtY b a := fun k => LtY.irrefl a (h.trans k)
theorem cY_lt (a b : Ky) : cY a b < 0 ↔ LtY a b := by
  unfold cY LtY
  by_cases h : cB a.1 b.1 = 0
  · rw [if_pos h]
    exact ⟨fun k => .inr ⟨cB_zero h, k⟩, fun k => k.elim (fun k => by omega) fun k => k.2⟩
  · rw [if_neg h]
    exact ⟨.inl, fun k => k.elim id fun k => absurd (by rw [k.1]; exact cB_self _) h⟩
theorem keyq_eq (x y : Ky) (w : World) : (Op.equalIn 10000 39 (.agg #[.string x.1, .string x.2]) (.agg #[.string y.1, .string y.2])).run Tryz.prog w = .ok (decide (x = y)) w := by
  rw [key_eq]
  congr 1
  rw [Bool.eq_iff_iff, decide_eq_true_iff, decide_eq_true_iff, Prod.ext_iff]

def RiseY (L : List Ky) : Prop := L.Pairwise LtY
/-! Slices of keys. -/
def dvY (d : Ky) : List Value := [.string d.1, .string d.2]
def dvsY (L : List Ky) : List Value := L.flatMap dvY
theorem dvsY_nil : dvsY [] = [] := rfl
theorem dvsY_cons (d : Ky) (L : List Ky) : dvsY (d :: L) = .string d.1 :: .string d.2 :: dvsY L := rfl
theorem dvsY_append (L M : List Ky) : dvsY (L ++ M) = dvsY L ++ dvsY M := by unfold dvsY; rw [List.flatMap_append]
theorem dvsY_length : ∀ L : List Ky, (dvsY L).length = L.length * 2
  | [] => rfl
  | d :: L => by rw [dvsY_cons, List.length_cons, List.length_cons, List.length_cons, dvsY_length L]; omega
theorem dvsY_get : ∀ (L : List Ky) (j : Nat) (h : j < L.length), (dvsY L)[j * 2]? = some (.string L[j].1) ∧ (dvsY L)[j * 2 + 1]? = some (.string L[j].2)
  | [], j, h => absurd h (by simp)
  | d :: L, 0, _ => by rw [dvsY_cons]; exact ⟨rfl, rfl⟩
  | d :: L, j + 1, h => by
    rw [dvsY_cons, show (j + 1) * 2 = j * 2 + 1 + 1 by omega]
    exact dvsY_get L j (by simpa using h)
theorem dvsY_one (L : List Ky) : ∀ v ∈ dvsY L, v.oneCell' = true := by
  intro v hv
  obtain ⟨d, _, hd⟩ := List.mem_flatMap.1 hv
  simp [dvY] at hd
  rcases hd with rfl | rfl <;> rfl
theorem dvsY_take : ∀ (L : List Ky) (n : Nat), (dvsY L).take (n * 2) = dvsY (L.take n)
  | [], n => by simp [dvsY]
  | d :: L, 0 => by simp [dvsY]
  | d :: L, n + 1 => by rw [dvsY_cons, show (n + 1) * 2 = n * 2 + 1 + 1 by omega, List.take_succ_cons, List.take_succ_cons, dvsY_take L n, List.take_succ_cons, dvsY_cons]
theorem dvsY_drop : ∀ (L : List Ky) (n : Nat), (dvsY L).drop (n * 2) = dvsY (L.drop n)
  | [], n => by simp [dvsY]
  | d :: L, 0 => by simp
  | d :: L, n + 1 => by rw [dvsY_cons, show (n + 1) * 2 = n * 2 + 1 + 1 by omega, List.drop_succ_cons, List.drop_succ_cons, dvsY_drop L n, List.drop_succ_cons]

/-- The value v is a slice that reads as the dots L in the world w. -/
def SdY (w : World) (v : Value) (L : List Ky) : Prop :=
  ∃ A c, v = .slice A L.length c ∧ L.length ≤ c ∧ (0 < L.length → ∃ b o, A = some ⟨b, o, none⟩ ∧ ∀ j (h : j < L.length), w.cell? ⟨b, o + j * 2, none⟩ = some (.string L[j].1) ∧ w.cell? ⟨b, o + j * 2 + 1, none⟩ = some (.string L[j].2))
theorem SdY.nil {w : World} (A : Option Addr) (c : Nat) : SdY w (.slice A 0 c) [] := ⟨A, c, rfl, Nat.zero_le _, fun h => absurd h (by simp)⟩
theorem SdY.keep {w w' : World} {v : Value} {L : List Ky} (h : SdY w v L) (hk : ∀ p : Addr, ∀ u, v.ownBlock = some p.block → w.cell? p = some u → w'.cell? p = some u) : SdY w' v L := by
  obtain ⟨A, c, rfl, hc, ha⟩ := h
  refine ⟨A, c, rfl, hc, fun hn => ?_⟩
  obtain ⟨b, o, rfl, hx⟩ := ha hn
  exact ⟨b, o, rfl, fun j hj => ⟨hk _ _ rfl (hx j hj).1, hk _ _ rfl (hx j hj).2⟩⟩
theorem SdY.below {w w' : World} {v : Value} {L : List Ky} (h : SdY w v L) (hb : Below w.heap.size w w') : SdY w' v L :=
  h.keep fun p u _ hu => (hb.cell (World.block_lt_of_cell? w p hu)).trans hu
theorem SdY.alloc {w : World} {v : Value} {L : List Ky} (h : SdY w v L) (o : Obj) : SdY (w.alloc o) v L :=
  h.keep fun p u _ hu => (World.cell?_alloc_lt w o p (World.block_lt_of_cell? w p hu)).trans hu
theorem SdY.drew {w : World} {v : Value} {L : List Ky} (h : SdY w v L) : SdY w.drew v L := h
theorem SdY.drewN {w : World} {v : Value} {L : List Ky} (h : SdY w v L) (n : Nat) : SdY (w.drewN n) v L := h
theorem SdY.len {w : World} {A : Option Addr} {n c : Nat} {L : List Ky} (h : SdY w (.slice A n c) L) : n = L.length := by
  obtain ⟨A, c, e, _⟩ := h
  injection e
theorem SdY.shape {w : World} {v : Value} {L : List Ky} (h : SdY w v L) : ∃ A n c, v = .slice A n c := by
  obtain ⟨A, c, rfl, _⟩ := h
  exact ⟨A, _, c, rfl⟩
/-- A part of a slice. -/
theorem SdY.sub {w : World} {A : Option Addr} {n c : Nat} {L : List Ky} (h : SdY w (.slice A n c) L) (i j : Nat) (hij : i ≤ j) (hj : j ≤ L.length) (B : Option Addr) (hB : ∀ b o, A = some ⟨b, o, none⟩ → i < j → B = some ⟨b, o + i * 2, none⟩) (hc : j ≤ c) :
    SdY w (.slice B (j - i) (c - i)) ((L.take j).drop i) := by
  obtain ⟨A', c', e, hcc, ha⟩ := h
  injection e with e1 e2 e3
  subst e1; subst e3
  have hl : ((L.take j).drop i).length = j - i := by rw [List.length_drop, List.length_take]; omega
  refine ⟨B, c - i, by rw [hl], by rw [hl]; omega, fun hn => ?_⟩
  rw [hl] at hn
  obtain ⟨b, o, rfl, hx⟩ := ha (by omega)
  refine ⟨b, o + i * 2, hB b o rfl (by omega), fun k hk => ?_⟩
  rw [hl] at hk
  have := hx (i + k) (by omega)
  have e : ((L.take j).drop i)[k]'(by rw [hl]; exact hk) = L[i + k] := by simp
  rw [e, show o + i * 2 + k * 2 = o + (i + k) * 2 by omega]
  exact this

/-- A row of dots of the call's own (or nil). -/
def OwnDY (w : World) (base : Nat) (v : Value) (L : List Ky) : Prop := w.ownsRow base 39 2 v L.length (dvsY L)
theorem OwnDY.nil {w : World} {base : Nat} : OwnDY w base (.slice none 0 0) [] := World.ownsRow_nil w base _ 2
theorem OwnDY.alloc {w : World} {base : Nat} {v : Value} {L : List Ky} (h : OwnDY w base v L) (o : Obj) : OwnDY (w.alloc o) base v L := World.ownsRow.alloc h o
theorem OwnDY.drew {w : World} {base : Nat} {v : Value} {L : List Ky} (h : OwnDY w base v L) : OwnDY w.drew base v L := h
theorem OwnDY.drewN {w : World} {base : Nat} {v : Value} {L : List Ky} (h : OwnDY w base v L) (n : Nat) : OwnDY (w.drewN n) base v L := h
theorem OwnDY.mono {w : World} {base B : Nat} {v : Value} {L : List Ky} (h : OwnDY w base v L) (hB : B ≤ base) : OwnDY w B v L := by
  refine ⟨h.1, ?_⟩
  rcases h.2 with h2 | ⟨g, cap, cur, hv, hg, hh, r⟩
  · exact Or.inl h2
  · exact Or.inr ⟨g, cap, cur, hv, by omega, hh, r⟩
theorem OwnDY.lt {w : World} {base : Nat} {v : Value} {L : List Ky} (h : OwnDY w base v L) : ∀ k, v.ownBlock = some k → base ≤ k ∧ k < w.heap.size := World.ownsRow.lt h
theorem OwnDY.keep {w w' : World} {base : Nat} {v : Value} {L : List Ky} (h : OwnDY w base v L) (hk : ∀ k, v.ownBlock = some k → w'.heap[k]? = w.heap[k]?) : OwnDY w' base v L := by
  refine ⟨h.1, ?_⟩
  rcases h.2 with h2 | ⟨g, cap, cur, rfl, hg, hh, r⟩
  · exact Or.inl h2
  · exact Or.inr ⟨g, cap, cur, rfl, hg, (hk g rfl).trans hh, r⟩
theorem OwnDY.below {w w' : World} {base : Nat} {v : Value} {L : List Ky} (h : OwnDY w base v L) (hb : Below w.heap.size w w') : OwnDY w' base v L :=
  h.keep fun k hk => hb.block k (h.lt k hk).2
theorem OwnDY.sd {w : World} {base : Nat} {v : Value} {L : List Ky} (h : OwnDY w base v L) : SdY w v L := by
  rcases h.2 with ⟨rfl, h0⟩ | ⟨g, cap, cur, rfl, _, hh, hnc, _, hs, ht⟩
  · refine ⟨none, 0, by rw [h0], by omega, fun hn => absurd hn (by omega)⟩
  · refine ⟨some ⟨g, 0, none⟩, cap, rfl, hnc, fun _ => ⟨g, 0, rfl, fun j hj => ?_⟩⟩
    have h1 := World.ownsRow.cells h (g := g) rfl (j * 2) _ (dvsY_get L j hj).1
    have h2 := World.ownsRow.cells h (g := g) rfl (j * 2 + 1) _ (dvsY_get L j hj).2
    rw [add_plain] at h1 h2
    exact ⟨h1, by rw [show 0 + j * 2 + 1 = 0 + (j * 2 + 1) by omega]; exact h2⟩
/-- Rising from nothing: nil just where there is none? Where a row of the call's own lies it is no other block. -/
theorem OwnDY.shape {w : World} {base : Nat} {v : Value} {L : List Ky} (h : OwnDY w base v L) : ∃ A n c, v = .slice A n c := h.sd.shape

/-- A dot of a slice, as its cells say it. -/
theorem SdY.at_ {w : World} {A : Option Addr} {n c : Nat} {L : List Ky} (h : SdY w (.slice A n c) L) (k : Nat) (hk : k < L.length) (d : Ky) (hd : L[k] = d) : ∃ b o, A = some ⟨b, o, none⟩ ∧ w.cell? ⟨b, o + k * 2, none⟩ = some (.string d.1) ∧ w.cell? ⟨b, o + k * 2 + 1, none⟩ = some (.string d.2) := by
  obtain ⟨A', c', e, hc, ha⟩ := h
  injection e with e1 e2 e3
  subst e1
  obtain ⟨b, o, rfl, hx⟩ := ha (by omega)
  exact ⟨b, o, rfl, by rw [← hd]; exact (hx k hk).1, by rw [← hd]; exact (hx k hk).2⟩

/-- No later one stands ahead of an earlier one. -/
def OrdY (L : List Ky) : Prop := L.Pairwise fun a b => ¬ LtY b a
/-- Of the first m dots each once. -/
structure UqY (L : List Ky) (m : Nat) (P : List Ky) : Prop where
  rise : RiseY P
  mem : ∀ d, d ∈ P ↔ d ∈ L.take m
  len : P.length ≤ m
theorem ord_ltY {L : List Ky} (h : OrdY L) {i j : Nat} (hij : i < j) (hj : j < L.length) : ¬ LtY L[j] (L[i]'(by omega)) := (List.pairwise_iff_getElem.1 h) i j (by omega) hj hij
theorem UqY.skip {L P : List Ky} {m : Nat} (h : UqY L m P) (hm : m < L.length) (h0 : 0 < m) (he : L[m] = L[m - 1]'(by omega)) : UqY L (m + 1) P := by
  refine ⟨h.rise, fun d => ?_, by have := h.len; omega⟩
  rw [h.mem, List.take_succ_eq_append_getElem hm, List.mem_append, List.mem_singleton]
  constructor
  · exact .inl
  · rintro (h1 | h1)
    · exact h1
    · rw [h1, he]
      exact List.mem_take_iff_getElem.2 ⟨m - 1, by omega, rfl⟩
theorem UqY.keep {L P : List Ky} {m : Nat} (h : UqY L m P) (ho : OrdY L) (hm : m < L.length) (h0 : 0 < m) (he : L[m] ≠ L[m - 1]'(by omega)) : UqY L (m + 1) (P ++ [L[m]]) := by
  refine ⟨?_, fun d => ?_, by have := h.len; simp; omega⟩
  · unfold RiseY
    rw [List.pairwise_append]
    refine ⟨h.rise, List.pairwise_singleton _ _, fun a ha b hb => ?_⟩
    rw [List.mem_singleton] at hb
    subst hb
    obtain ⟨i, hi, rfl⟩ := List.mem_take_iff_getElem.1 ((h.mem a).1 ha)
    have hi1 : i < m := by omega
    have h1 : LtY (L[m - 1]'(by omega)) L[m] := by
      rcases LtY.tri (L[m - 1]'(by omega)) L[m] with x | x | x
      · exact x
      · exact absurd x.symm he
      · exact absurd x (ord_ltY ho (by omega) hm)
    rcases Nat.lt_or_ge i (m - 1) with hlt | hge
    · rcases LtY.tri L[i] (L[m - 1]'(by omega)) with x | x | x
      · exact x.trans h1
      · rw [x]; exact h1
      · exact absurd x (ord_ltY ho hlt (by omega))
    · have : i = m - 1 := by omega
      subst this
      exact h1
  · rw [List.mem_append, List.mem_singleton, h.mem, List.take_succ_eq_append_getElem hm, List.mem_append, List.mem_singleton]
theorem uq_allY {L : List Ky} (ho : OrdY L) {k : Nat} (hk : k ≤ L.length) (h : ∀ j (h1 : j < L.length), 1 ≤ j → j < k → L[j] ≠ L[j - 1]) : UqY L k (L.take k) := by
  induction k with
  | zero => exact ⟨by simp [RiseY], by simp, by simp⟩
  | succ k ih =>
    have ih := ih (by omega) (fun j h1 h2 h3 => h j h1 h2 (by omega))
    have hkl : k < L.length := by omega
    rcases Nat.eq_zero_or_pos k with rfl | h0
    · refine ⟨?_, fun d => Iff.rfl, by simp; omega⟩
      rw [List.take_succ_eq_append_getElem hkl]
      simp [RiseY]
    · have := ih.keep ho hkl h0 (h k hkl h0 (by omega))
      rw [List.take_succ_eq_append_getElem hkl]
      exact this

/-- A dot of a row set. -/
theorem OwnDY.set {w : World} {base g cap n : Nat} {L : List Ky} (h : OwnDY w base (.slice (some ⟨g, 0, none⟩) n cap) L) (i : Nat) (hi : i < L.length) (d : Ky) :
    OwnDY (w.setCells g (i * 2) [.string d.1, .string d.2]) base (.slice (some ⟨g, 0, none⟩) n cap) (L.set i d) := by
  rcases h.2 with ⟨h2, _⟩ | ⟨g', cap', cur, hv, hg, hh, hnc, hcm, hs, ht⟩
  · cases h2
  · injection hv with e1 e2 e3
    injection e1 with e1
    injection e1 with e1
    subst e1; subst e2; subst e3
    have hB : Blk w g 39 cur := hh
    have hB2 := hB.lay_ (i * 2) [.string d.1, .string d.2] (by simp; omega)
    refine ⟨dvsY_length _, .inr ⟨g, cap, _, by rw [List.length_set], hg, hB2, by rw [List.length_set]; exact hnc, hcm, ?_, ?_⟩⟩
    · rw [List.size_toArray, lay_length (by simp; omega), Array.length_toList, hs]
    · rw [List.length_set]
      have e : dvsY (L.set i d) = lay (dvsY L) (i * 2) (dvY d) := by
        rw [List.set_eq_take_append_cons_drop, if_pos hi, dvsY_append, ← dvsY_take]
        show (dvsY L).take (i * 2) ++ (dvY d ++ dvsY (L.drop (i + 1))) = _
        rw [← dvsY_drop, lay, List.append_assoc, show i * 2 + (dvY d).length = (i + 1) * 2 by simp [dvY]; omega]
      rw [e, ← ht]
      have hcl : cur.toList.length = cap * 2 := by rw [Array.length_toList, hs]
      show (lay cur.toList (i * 2) (dvY d)).take (L.length * 2) = lay (cur.toList.take (L.length * 2)) (i * 2) (dvY d)
      unfold lay
      have hdl : (dvY d).length = 2 := rfl
      rw [List.take_append, List.take_append, List.length_append, List.length_take, hdl, hcl, List.take_take, List.take_take, List.take_drop]
      rw [show min (L.length * 2) (i * 2) = i * 2 by omega, show min (i * 2) (L.length * 2) = i * 2 by omega]
      rw [List.take_of_length_le (l := dvY d) (by rw [hdl]; omega)]
      rw [show i * 2 + 2 + (L.length * 2 - (min (i * 2) (cap * 2) + 2)) = L.length * 2 by omega]
theorem OwnDY.cut {w : World} {base g cap n : Nat} {L : List Ky} (h : OwnDY w base (.slice (some ⟨g, 0, none⟩) n cap) L) (k : Nat) (hk : k ≤ L.length) : OwnDY w base (.slice (some ⟨g, 0, none⟩) k cap) (L.take k) := by
  rcases h.2 with ⟨h2, _⟩ | ⟨g', cap', cur, hv, hg, hh, hnc, hcm, hs, ht⟩
  · cases h2
  · injection hv with e1 e2 e3
    injection e1 with e1
    injection e1 with e1
    subst e1; subst e2; subst e3
    have hkl : (L.take k).length = k := by rw [List.length_take]; omega
    refine ⟨dvsY_length _, .inr ⟨g, cap, cur, by rw [hkl], hg, hh, by rw [hkl]; omega, hcm, hs, ?_⟩⟩
    rw [hkl, ← dvsY_take, ← ht, List.take_take, show min (k * 2) (L.length * 2) = k * 2 by omega]
theorem OwnDY.there {w : World} {base g cap n : Nat} {L : List Ky} (h : OwnDY w base (.slice (some ⟨g, 0, none⟩) n cap) L) (i : Nat) (hi : i < L.length) : w.there g (i * 2) 2 := by
  rcases h.2 with ⟨h2, _⟩ | ⟨g', cap', cur, hv, hg, hh, hnc, hcm, hs, ht⟩
  · cases h2
  · injection hv with e1 e2 e3
    injection e1 with e1
    injection e1 with e1
    subst e1; subst e2; subst e3
    have hB : Blk w g 39 cur := hh
    intro j hj
    exact ⟨by rw [hB.cell, Array.getElem?_eq_getElem (by omega)]; rfl, hB.frozen _⟩
theorem OwnDY.thereAll {w : World} {base g cap n : Nat} {L : List Ky} (h : OwnDY w base (.slice (some ⟨g, 0, none⟩) n cap) L) (j : Nat) (hj : j < L.length * 2) : (w.cell? ⟨g, j, none⟩).isSome = true ∧ w.frozen? ⟨g, j, none⟩ = false := by
  rcases h.2 with ⟨h2, _⟩ | ⟨g', cap', cur, hv, hg, hh, hnc, hcm, hs, ht⟩
  · cases h2
  · injection hv with e1 e2 e3
    injection e1 with e1
    injection e1 with e1
    subst e1; subst e2; subst e3
    have hB : Blk w g 39 cur := hh
    exact ⟨by rw [hB.cell, Array.getElem?_eq_getElem (by omega)]; rfl, hB.frozen _⟩
def zdsY (n : Nat) : List Value := dvsY (List.replicate n ((⟨#[]⟩, ⟨#[]⟩) : Ky))
theorem zero_listY (n : Nat) : (Builtin.zeroCells (Value.agg #[.string ⟨#[]⟩, .string ⟨#[]⟩]).cells n).toList = zdsY n := by
  unfold Builtin.zeroCells zdsY
  apply List.ext_getElem?
  intro j
  rw [Array.toList_map, Array.toList_range, List.getElem?_map]
  have hsz : (Value.agg #[.string ⟨#[]⟩, .string ⟨#[]⟩]).cells.size = 2 := rfl
  rw [hsz]
  by_cases hj : j < n * 2
  · rw [List.getElem?_range hj]
    obtain ⟨k, hk | hk⟩ : ∃ k, j = k * 2 ∨ j = k * 2 + 1 := ⟨j / 2, by omega⟩
    · subst hk
      have := (dvsY_get (List.replicate n ((⟨#[]⟩, ⟨#[]⟩) : Ky)) k (by rw [List.length_replicate]; omega)).1
      rw [this, Option.map_some, Nat.mul_mod_left]
      simp; rfl
    · subst hk
      have := (dvsY_get (List.replicate n ((⟨#[]⟩, ⟨#[]⟩) : Ky)) k (by rw [List.length_replicate]; omega)).2
      rw [this, Option.map_some, show (k * 2 + 1) % 2 = 1 by omega]
      simp; rfl
  · rw [List.getElem?_eq_none (by rw [List.length_range]; omega), List.getElem?_eq_none (by rw [dvsY_length, List.length_replicate]; omega)]
    rfl
theorem run_clear_dotsY {P : Program} (w : World) (t e ty : TypeId) (ht : P.underlying t = some (.slice e)) (hv : ∀ w, (zeroValue e).run P w = .ok (.agg #[.string ⟨#[]⟩, .string ⟨#[]⟩]) w) (b o n c : Nat) (hn : 0 < n)
    (hc : ∀ j, j < n * 2 → (w.cell? ⟨b, o + j, none⟩).isSome = true) (hf : ∀ j, j < n * 2 → w.frozen? ⟨b, o + j, none⟩ = false) :
    (Builtin.clear_ #[t] ty #[.slice (some ⟨b, o, none⟩) n c]).run P w = .ok (.tuple #[]) (w.setCells b o (zdsY n)) := by
  have hl : (zdsY n).length = n * 2 := by unfold zdsY; rw [dvsY_length, List.length_replicate]
  have hst := run_storeCells_cells (P := P) b o (zdsY n) 0 w (by rw [hl]; simpa using hc) (by rw [hl]; simpa using hf) (dvsY_one _)
  simp only [Nat.add_zero] at hst
  obtain ⟨m, rfl⟩ : ∃ m, n = m + 1 := ⟨n - 1, by omega⟩
  simp only [Builtin.clear_, List.getElem?_toArray, List.getElem?_cons_zero, Sem.run_bind, run_underlying ht, Result.andThen_ok, hv, zero_listY, hst, Sem.run_pure]

theorem zds_setY {w : World} {base g cap n : Nat} {L : List Ky} (h : OwnDY w base (.slice (some ⟨g, 0, none⟩) n cap) L) (k m : Nat) (hk : k + m = L.length) :
    OwnDY (w.setCells g (k * 2) (zdsY m)) base (.slice (some ⟨g, 0, none⟩) k cap) (L.take k) := by
  rcases h.2 with ⟨h2, _⟩ | ⟨g', cap', cur, hv, hg, hh, hnc, hcm, hs, ht⟩
  · cases h2
  · injection hv with e1 e2 e3
    injection e1 with e1
    injection e1 with e1
    subst e1; subst e2; subst e3
    have hB : Blk w g 39 cur := hh
    have hz : (zdsY m).length = m * 2 := by unfold zdsY; rw [dvsY_length, List.length_replicate]
    have hB2 := hB.lay_ (k * 2) (zdsY m) (by rw [hz]; omega)
    have hkl : (L.take k).length = k := by rw [List.length_take]; omega
    have hcl : cur.toList.length = cap * 2 := by rw [Array.length_toList, hs]
    refine ⟨dvsY_length _, .inr ⟨g, cap, _, by rw [hkl], hg, hB2, by rw [hkl]; omega, hcm, ?_, ?_⟩⟩
    · rw [List.size_toArray, lay_length (by rw [hz]; omega), hcl]
    · rw [hkl, ← dvsY_take, ← ht, List.take_take, show min (k * 2) (L.length * 2) = k * 2 by omega]
      show (lay cur.toList (k * 2) (zdsY m)).take (k * 2) = _
      unfold lay
      rw [List.append_assoc, List.take_append_of_le_length (by rw [List.length_take]; omega), List.take_take, Nat.min_self]

set_option maxHeartbeats 4000000 in
theorem uniq_anyY (v : Value) (L : List Ky) (base : Nat) (w : World) (ho : OwnDY w base v L) (hl : L.length ≤ 100000) (hs : OrdY L) :
    Calls Tryz.prog 79 #[v] w fun e w' => ∃ v' M, e = .returned v' ∧ OwnDY w' base v' M ∧ RiseY M ∧ (∀ d, d ∈ M ↔ d ∈ L) ∧ M.length ≤ L.length ∧ w.grownBy w' v.ownBlock := by
  have hfo : Tryz.prog.follows .mixedOrders = true := by kernel_rfl
  have hde : ∀ (x y : Ky) (w : World), (Op.equalIn 10000 39 (.agg #[.string x.1, .string x.2]) (.agg #[.string y.1, .string y.2])).run Tryz.prog w = .ok (decide (x = y)) w := keyq_eq
  have HDE := Lib.hid hde
  clear hde
  have HS := Lib.hid hs
  have HO := Lib.hid ho
  have hsd := ho.sd
  obtain ⟨A, c, rfl, hcc, ha⟩ := ho.sd
  clear hs
  by_cases h2 : L.length < 2
  · have h2i : (L.length : Int) < 2 := by omega
    have hu := uq_allY HS.out (Nat.le_refl _) (fun j h1 h3 h4 => absurd h4 (by omega))
    rw [List.take_length] at hu
    have HU := Lib.hid hu
    clear hu ha ho hsd h2
    go_enter Tryz.func79, Tryz.ntmps79
    go_wp2
    go_ret
    exact ⟨_, L, rfl, HO.out, HU.out.rise, fun d => Iff.rfl, Nat.le_refl _, World.grownBy.refl _ _⟩
  · obtain ⟨g, rfl⟩ : ∃ g, A = some ⟨g, 0, none⟩ := by
      rcases ho.2 with ⟨h0, h1⟩ | ⟨g, cap, cur, hv, _⟩
      · omega
      · injection hv with e1 _ _
        exact ⟨g, e1⟩
    clear ha ho
    have h2i : ¬ (L.length : Int) < 2 := by omega
    go_enter Tryz.func79, Tryz.ntmps79
    go_wp2
    go_loopw [3] (fun z wr => ∃ k : Nat, z = .int .i64 (k : Int) ∧ 1 ≤ k ∧ k ≤ L.length ∧ (∃ n, wr = w.drewN n) ∧ ∀ j (h1 : j < L.length), 1 ≤ j → j < k → L[j] ≠ L[j - 1]) (fun z _ => L.length - (intOf z).toNat)
    case atStart => exact ⟨1, rfl, Nat.le_refl _, by omega, ⟨0, rfl⟩, fun j h1 h2 h3 => absurd h3 (by omega)⟩
    case round =>
      obtain ⟨k, rfl, hk1, hk, ⟨n, rfl⟩, hall⟩ := hrel
      have HA := Lib.hid hall
      clear hall
      by_cases hlt : k < L.length
      · obtain ⟨x, hx⟩ : ∃ x, L[k] = x := ⟨_, rfl⟩
        obtain ⟨y, hy⟩ : ∃ y, L[k - 1]'(by omega) = y := ⟨_, rfl⟩
        obtain ⟨b, o, e0, k0, k1⟩ := hsd.at_ k hlt x hx
        injection e0 with e0
        injection e0 with e1 e2
        subst e1; subst e2
        obtain ⟨b', o', e0, k2, k3⟩ := hsd.at_ (k - 1) (by omega) y hy
        injection e0 with e0
        injection e0 with e1 e2
        subst e1; subst e2
        have HX := Lib.hid hx
        have HY := Lib.hid hy
        have hde1 := HDE.out x y
        have hk1i : (1 : Int) ≤ (k : Int) := by omega
        have hlti : (k : Int) < (L.length : Int) := by omega
        have hkm : ((k - 1 : Nat) : Int) = (k : Int) - 1 := by omega
        have HLT := Lib.hid hlt
        clear hx hy
        rw [Nat.zero_add] at k0 k1 k2 k3
        by_cases hd : x = y
        · rw [decide_eq_true hd] at hde1
          have HD := Lib.hid hd
          clear hd
          go_wp2_with fail
          go_quiet (fail)
          go_wp2_with fail
          have hst : UqY L (k + 1) (L.take k) := (uq_allY HS.out hk HA.out).skip HLT.out (by omega) (by rw [HX.out, HY.out]; exact HD.out)
          have hlk : (L.take k).length = k := by rw [List.length_take]; omega
          have ho0 : OwnDY (w.drewN (n + nq)) base (.slice (some ⟨g, 0, none⟩) L.length c) (L.take k ++ L.drop (L.take k).length) := by rw [hlk, List.take_append_drop]; exact HO.out.drewN _
          have HST := Lib.hid hst
          clear k0 k1 k2 k3 hst
          rename World => wold
          go_loopw [3, 5] (fun z3 z5 wq => ∃ (P : List Ky) (m : Nat), z3 = .int .i64 (P.length : Int) ∧ z5 = .int .i64 (m : Int) ∧ 1 ≤ m ∧ k + m ≤ L.length ∧ UqY L (k + m) P ∧ P.length < k + m ∧ OwnDY wq base (.slice (some ⟨g, 0, none⟩) L.length c) (P ++ L.drop P.length) ∧ wold.grownBy wq (some g)) (fun _ z5 _ => L.length - (intOf z5).toNat)
          case atStart =>
            exact ⟨L.take k, 1, by rw [hlk], rfl, Nat.le_refl _, by omega, HST.out, by omega, ho0, ⟨rfl, rfl, rfl, Nat.le_refl _, fun _ _ _ => rfl⟩⟩
          case round =>
            clear ho0
            obtain ⟨P, m, rfl, rfl, hm1, hm, hU, hPl, ho, hg⟩ := hrel
            have HU := Lib.hid hU
            have HQ := Lib.hid ho
            have HG := Lib.hid hg
            have hPL : (P ++ L.drop P.length).length = L.length := by rw [List.length_append, List.length_drop]; omega
            clear hU hg
            by_cases hlt2 : k + m < L.length
            · obtain ⟨u, hu⟩ : ∃ u, L[k + m] = u := ⟨_, rfl⟩
              obtain ⟨v, hv⟩ : ∃ v, L[k + m - 1]'(by omega) = v := ⟨_, rfl⟩
              have eu : (P ++ L.drop P.length)[k + m]'(by omega) = u := by
                rw [List.getElem_append_right (by omega), List.getElem_drop, ← hu]; congr 1; omega
              have ev : (P ++ L.drop P.length)[k + m - 1]'(by omega) = v := by
                rw [List.getElem_append_right (by omega), List.getElem_drop, ← hv]; congr 1; omega
              have hsd2 := ho.sd
              rw [show L.length = (P ++ L.drop P.length).length from hPL.symm] at hsd2
              obtain ⟨b, o, e0, k0, k1⟩ := hsd2.at_ (k + m) (by omega) u eu
              injection e0 with e0
              injection e0 with e1 e2
              subst e1; subst e2
              obtain ⟨b', o', e0, k2, k3⟩ := hsd2.at_ (k + m - 1) (by omega) v ev
              injection e0 with e0
              injection e0 with e1 e2
              subst e1; subst e2
              have HUu := Lib.hid hu
              have HV := Lib.hid hv
              have hde2 := HDE.out u v
              have hm1i : (1 : Int) ≤ (m : Int) := by omega
              have hlti2 : (m : Int) < ((L.length - k : Nat) : Int) := by omega
              have hkm2 : ((m - 1 : Nat) : Int) = (m : Int) - 1 := by omega
              have HLT2 := Lib.hid hlt2
              rw [show 0 + (k + m) * 2 = k * 2 + m * 2 by omega] at k0 k1
              rw [show 0 + (k + m - 1) * 2 = k * 2 + (m - 1) * 2 by omega] at k2 k3
              clear hu hv eu ev hsd2 ho hde1
              by_cases hd : u = v
              · rw [decide_eq_true hd] at hde2
                have HD2 := Lib.hid hd
                clear hd
                go_wp2_with fail
                go_quiet (fail)
                go_wp2
                refine ⟨⟨P, m + 1, rfl, by go_num, by omega, by have := HLT2.out; omega, HU.out.skip HLT2.out (by omega) (by rw [HUu.out, HV.out]; exact HD2.out), by omega, HQ.out.drewN _, grown_then HG.out (grown_drewN _ _ _)⟩, by have := HLT2.out; simp [intOf]; omega⟩
              · rw [decide_eq_false hd] at hde2
                have HD2 := Lib.hid hd
                clear hd
                go_wp2_with fail
                go_quiet (fail)
                have hth := HQ.out.there P.length (by omega)
                obtain ⟨z, hz⟩ : ∃ z, (P ++ L.drop P.length)[P.length]'(by omega) = z := ⟨_, rfl⟩
                have hsd3 := HQ.out.sd
                rw [show L.length = (P ++ L.drop P.length).length from hPL.symm] at hsd3
                obtain ⟨b, o, e0, k4, k5⟩ := hsd3.at_ P.length (by omega) z hz
                injection e0 with e0
                injection e0 with e1 e2
                subst e1; subst e2
                rw [Nat.zero_add] at k4 k5
                have f4 : wr.frozen? ⟨g, P.length * 2, none⟩ = false := (hth 0 (by omega)).2
                have f5 : wr.frozen? ⟨g, P.length * 2 + 1, none⟩ = false := (hth 1 (by omega)).2
                clear hth hsd3 hz
                have hPi : (P.length : Int) < (L.length : Int) := by omega
                go_wp2
                have hset := (HQ.out.drewN nq).set P.length (by omega) u
                have e1 : (P ++ L.drop P.length).set P.length u = (P ++ [u]) ++ L.drop (P ++ [u]).length := by
                  rw [List.set_append_right _ _ (Nat.le_refl _), Nat.sub_self, List.drop_eq_getElem_cons (show P.length < L.length by omega), List.set_cons_zero, List.append_assoc, List.length_append]
                  rfl
                rw [e1] at hset
                have hk2 := HU.out.keep HS.out HLT2.out (by omega) (by rw [HUu.out, HV.out]; exact HD2.out)
                rw [HUu.out] at hk2
                refine ⟨⟨P ++ [u], m + 1, by rw [List.length_append]; go_num, by go_num, by omega, by have := HLT2.out; omega, hk2, by rw [List.length_append]; simp; omega, hset, grown_then HG.out (grown_then (grown_drewN _ nq _) (grown_then (grown_setCell _ g _ _) (grown_setCell _ g _ _)))⟩, by have := HLT2.out; simp [intOf]; omega⟩
            · have hend : k + m = L.length := by omega
              have hn0 : 0 < L.length - P.length := by omega
              have hnlt : ¬ ((m : Int) < ((L.length - k : Nat) : Int)) := by omega
              have hth := ho.thereAll
              rw [hPL] at hth
              have hcl : ∀ ty, (Builtin.clear_ #[73] ty #[.slice (some ⟨g, P.length * 2, none⟩) (L.length - P.length) (c - P.length)]).run Tryz.prog wr = .ok (.tuple #[]) (wr.setCells g (P.length * 2) (zdsY (L.length - P.length))) :=
                fun ty => run_clear_dotsY wr _ _ ty Tryz.underlying73 Tryz.zeroValue39 g (P.length * 2) _ _ hn0 (fun j hj => (hth _ (by omega)).1) (fun j hj => (hth _ (by omega)).2)
              have hPi : ¬ ((L.length : Int) < (P.length : Int)) := by omega
              have hPc : ¬ ((c : Int) < (P.length : Int)) := by omega
              clear hth hlt2 ho
              go_wp2
              go_ret
              have hz := zds_setY HQ.out P.length (L.length - P.length) (by omega)
              rw [List.take_left' rfl] at hz
              refine ⟨_, rfl, P, hz, HU.out.rise, fun d b => by rw [HU.out.mem, hend, List.take_length], by omega, grown_then HG.out (grown_setCells g _ _ _)⟩
        · rw [decide_eq_false hd] at hde1
          have HD := Lib.hid hd
          clear hd
          go_wp2_with fail
          go_quiet (fail)
          go_wp2
          refine ⟨⟨k + 1, by go_num, by omega, HLT.out, ⟨_, by first | rfl | rw [World.drewN_drewN]⟩, fun j h1 h2 h3 => ?_⟩, by have := HLT.out; simp [intOf]; omega⟩
          rcases Nat.lt_or_ge j k with h | h
          · exact HA.out j h1 h2 h
          · obtain rfl : j = k := by omega
            rw [HX.out, HY.out]; exact HD.out
      · obtain rfl : k = L.length := by omega
        have hu := uq_allY HS.out (Nat.le_refl _) HA.out
        rw [List.take_length] at hu
        have HU := Lib.hid hu
        clear hu
        go_wp2
        go_ret
        exact ⟨_, L, rfl, HO.out.drewN _, HU.out.rise, fun d => Iff.rfl, Nat.le_refl _, grown_drewN _ _ _⟩
end Go.Proofs.YtldfaaahmpncbaaGreat

namespace Go.Proofs.YtldfaaahmpncbaaGreat
open Go.RowKit Go.Sort
open CtxM
set_option linter.unusedVariables false
set_option linter.unusedSimpArgs false
set_option maxRecDepth 20000
/-- The first one, unless it is nought. -/
def orF (x y : Int) : Int := if x = 0 then y else x
set_option maxHeartbeats 1000000 in
theorem cmpor_any (b : Nat) (x y : Int) (w : World) (hb : Blk w b 3 #[.int .i64 x, .int .i64 y]) : Calls Tryz.prog 107 #[.slice (some ⟨b, 0, none⟩) 2 2] w fun e w' => e = .returned (.int .i64 (orF x y)) ∧ Grw w w' := by
  have q0 : w.cell? ⟨b, 0, none⟩ = some (.int .i64 x) := by rw [hb.cell]; rfl
  have q1 : w.cell? ⟨b, 1, none⟩ = some (.int .i64 y) := by rw [hb.cell]; rfl
  clear hb
  obtain ⟨r, hr⟩ : ∃ r, orF x y = r := ⟨_, rfl⟩
  rw [hr]
  unfold orF at hr
  have HR := Lib.hid hr
  clear hr
  go_enter Tryz.func107, Tryz.ntmps107
  go_wp2_with fail
  go_loopw [8] (fun z wr => ∃ k : Nat, z = .int .i64 (k : Int) ∧ k ≤ 2 ∧ (1 ≤ k → x = 0) ∧ (2 ≤ k → y = 0) ∧ wr = w) (fun z _ => 2 - (intOf z).toNat)
  case atStart => exact ⟨0, rfl, by omega, fun h => absurd h (by omega), fun h => absurd h (by omega), rfl⟩
  case round =>
    obtain ⟨k, rfl, hk, h1, h2, hwr⟩ := hrel
    subst hwr
    have H1 := Lib.hid h1
    have H2 := Lib.hid h2
    clear h1 h2
    by_cases e0 : k = 0
    · subst e0
      by_cases hx : x = 0
      · have hxb : (x != 0) = false := by rw [hx]; rfl
        have HX := Lib.hid hx
        clear hx
        go_wp2
        exact ⟨⟨1, by go_num, by omega, fun _ => HX.out, fun h => absurd h (by omega), by first | rfl | trivial⟩, by simp [intOf]⟩
      · have hxb : (x != 0) = true := by simpa using hx
        have HX := Lib.hid hx
        clear hx
        go_wp2
        go_ret
        exact ⟨by rw [← HR.out, if_neg HX.out]; rfl, Grw.refl _⟩
    · by_cases e1 : k = 1
      · subst e1
        by_cases hx : y = 0
        · have hxb : (y != 0) = false := by rw [hx]; rfl
          have HX := Lib.hid hx
          clear hx
          go_wp2
          exact ⟨⟨2, by go_num, by omega, fun _ => H1.out (by omega), fun h => HX.out, by first | rfl | trivial⟩, by simp [intOf]⟩
        · have hxb : (y != 0) = true := by simpa using hx
          have HX := Lib.hid hx
          clear hx
          go_wp2
          go_ret
          exact ⟨by rw [← HR.out, if_pos (H1.out (by omega))]; rfl, Grw.refl _⟩
      · obtain rfl : k = 2 := by omega
        go_wp2
        go_ret
        exact ⟨by rw [← HR.out, if_pos (H1.out (by omega)), H2.out (by omega)]; rfl, Grw.refl _⟩
set_option maxHeartbeats 2000000 in
theorem byTopic_any (a b : Ky) (w : World) : Calls Tryz.prog 82 #[.agg #[.string a.1, .string a.2], .agg #[.string b.1, .string b.2]] w fun e w' => e = .returned (.int .i64 (cY a b)) ∧ Grw w w' := by
  have hfo : Tryz.prog.follows .mixedOrders = true := by kernel_rfl
  have HC := Lib.hid (fun x y W => compare_any x y W)
  have hg1 := ((Grw.refl w).alloc (.cells #[.string a.1, .string a.2] 39)).alloc (.cells #[.string b.1, .string b.2] 39)
  have hA := (Blk.new w 39 #[.string a.1, .string a.2]).alloc (.cells #[.string b.1, .string b.2] 39)
  have hB := Blk.new (w.alloc (.cells #[.string a.1, .string a.2] 39)) 39 #[.string b.1, .string b.2]
  rw [show (w.alloc (.cells #[.string a.1, .string a.2] 39)).heap.size = w.heap.size + 1 by simp] at hB
  have hb1 := hg1.below
  obtain ⟨r, hr⟩ : ∃ r, cY a b = r := ⟨_, rfl⟩
  rw [hr]
  have HR := Lib.hid hr
  clear hr
  go_enter Tryz.func82, Tryz.ntmps82
  go_upto_region 1 with fail
  change Code.wp _ _ _ _ ((w.alloc (.cells #[.string a.1, .string a.2] 39)).alloc (.cells #[.string b.1, .string b.2] 39))
  generalize (w.alloc (.cells #[.string a.1, .string a.2] 39)).alloc (.cells #[.string b.1, .string b.2] 39) = W1 at hg1 hA hB hb1 ⊢
  refine wp_region_held_drew (S := fun X => Below W1.drew.heap.size W1.drew X) hfo (Below.refl _ _) (fun hS0 => ?_)
  have hW := hb1.trans ((show Below W1.heap.size W1 W1.drew from (Below.refl _ _).drew).mono hb1.size)
  have hbA : Blk W1.drew w.heap.size 39 #[.string a.1, .string a.2] := hA
  have hbB : Blk W1.drew (w.heap.size + 1) 39 #[.string b.1, .string b.2] := hB
  have hGr : Grw w W1.drew := hg1.drew
  generalize W1.drew = Z0 at hS0 hW hbA hbB hGr ⊢
  refine' wpAnyH_take (i := 0) (oi := ⟨some 5, _, _, _, _, _⟩) (v := _) rfl (by kernel_rfl) (by kernel_rfl) (by kernel_rfl) (fun _ _ _ h => h) (Or.inl ⟨by rfl, ?y0a⟩) hS0 ?r0a
  case y0a =>
    intro w' hSw
    go_simp
    try rfl
  try simp only [Act.put, List.setIfInBounds_toArray, List.set_cons_zero, List.set_cons_succ]
  refine' wpAnyH_take (i := 1) (oi := ⟨some 6, _, _, _, _, _⟩) (v := _) rfl (by kernel_rfl) (by kernel_rfl) (by kernel_rfl) (fun _ _ _ h => h) (Or.inl ⟨by rfl, ?y1a⟩) hS0 ?r1a
  case y1a =>
    intro w' hSw
    have hA := hbA.below hSw hbA.lt; have hB := hbB.below hSw hbB.lt; have a0 : w'.cell? ⟨w.heap.size, 0, none⟩ = some (.string a.1) := (by rw [hA.cell]; rfl); have a1 : w'.cell? ⟨w.heap.size, 1, none⟩ = some (.string a.2) := (by rw [hA.cell]; rfl); have b0 : w'.cell? ⟨w.heap.size + 1, 0, none⟩ = some (.string b.1) := (by rw [hB.cell]; rfl); have b1 : w'.cell? ⟨w.heap.size + 1, 1, none⟩ = some (.string b.2) := (by rw [hB.cell]; rfl)
    go_simp
    try rfl
  try simp only [Act.put, List.setIfInBounds_toArray, List.set_cons_zero, List.set_cons_succ]
  refine' wpAnyH_take (i := 2) (oi := ⟨some 7, _, _, _, _, _⟩) (v := _) rfl (by kernel_rfl) (by kernel_rfl) (by kernel_rfl) (fun _ _ _ h => h) (Or.inl ⟨by rfl, ?y2a⟩) hS0 ?r2a
  case y2a =>
    intro w' hSw
    go_simp
    try rfl
  try simp only [Act.put, List.setIfInBounds_toArray, List.set_cons_zero, List.set_cons_succ]
  refine' wpAnyH_take (i := 3) (oi := ⟨some 8, _, _, _, _, _⟩) (v := _) rfl (by kernel_rfl) (by kernel_rfl) (by kernel_rfl) (fun _ _ _ h => h) (Or.inl ⟨by rfl, ?y3a⟩) hS0 ?r3a
  case y3a =>
    intro w' hSw
    have hA := hbA.below hSw hbA.lt; have hB := hbB.below hSw hbB.lt; have a0 : w'.cell? ⟨w.heap.size, 0, none⟩ = some (.string a.1) := (by rw [hA.cell]; rfl); have a1 : w'.cell? ⟨w.heap.size, 1, none⟩ = some (.string a.2) := (by rw [hA.cell]; rfl); have b0 : w'.cell? ⟨w.heap.size + 1, 0, none⟩ = some (.string b.1) := (by rw [hB.cell]; rfl); have b1 : w'.cell? ⟨w.heap.size + 1, 1, none⟩ = some (.string b.2) := (by rw [hB.cell]; rfl)
    go_simp
    try rfl
  try simp only [Act.put, List.setIfInBounds_toArray, List.set_cons_zero, List.set_cons_succ]
  refine' wpAnyH_take (i := 5) (oi := ⟨some 10, _, _, _, _, _⟩) (v := _) rfl (by kernel_rfl) (by kernel_rfl) (by kernel_rfl) (fun _ _ _ h => h) (Or.inl ⟨by rfl, ?y5a⟩) hS0 ?r5a
  case y5a =>
    intro w' hSw
    go_simp
    try rfl
  try simp only [Act.put, List.setIfInBounds_toArray, List.set_cons_zero, List.set_cons_succ]
  refine' wpAnyH_take (i := 6) (oi := ⟨some 11, _, _, _, _, _⟩) (v := _) rfl (by kernel_rfl) (by kernel_rfl) (by kernel_rfl) (fun _ _ _ h => h) (Or.inl ⟨by rfl, ?y6a⟩) hS0 ?r6a
  case y6a =>
    intro w' hSw
    have hA := hbA.below hSw hbA.lt; have hB := hbB.below hSw hbB.lt; have a0 : w'.cell? ⟨w.heap.size, 0, none⟩ = some (.string a.1) := (by rw [hA.cell]; rfl); have a1 : w'.cell? ⟨w.heap.size, 1, none⟩ = some (.string a.2) := (by rw [hA.cell]; rfl); have b0 : w'.cell? ⟨w.heap.size + 1, 0, none⟩ = some (.string b.1) := (by rw [hB.cell]; rfl); have b1 : w'.cell? ⟨w.heap.size + 1, 1, none⟩ = some (.string b.2) := (by rw [hB.cell]; rfl)
    go_simp
    try rfl
  try simp only [Act.put, List.setIfInBounds_toArray, List.set_cons_zero, List.set_cons_succ]
  refine' wpAnyH_take (i := 7) (oi := ⟨some 12, _, _, _, _, _⟩) (v := _) rfl (by kernel_rfl) (by kernel_rfl) (by kernel_rfl) (fun _ _ _ h => h) (Or.inl ⟨by rfl, ?y7a⟩) hS0 ?r7a
  case y7a =>
    intro w' hSw
    go_simp
    try rfl
  try simp only [Act.put, List.setIfInBounds_toArray, List.set_cons_zero, List.set_cons_succ]
  refine' wpAnyH_take (i := 8) (oi := ⟨some 13, _, _, _, _, _⟩) (v := _) rfl (by kernel_rfl) (by kernel_rfl) (by kernel_rfl) (fun _ _ _ h => h) (Or.inl ⟨by rfl, ?y8a⟩) hS0 ?r8a
  case y8a =>
    intro w' hSw
    have hA := hbA.below hSw hbA.lt; have hB := hbB.below hSw hbB.lt; have a0 : w'.cell? ⟨w.heap.size, 0, none⟩ = some (.string a.1) := (by rw [hA.cell]; rfl); have a1 : w'.cell? ⟨w.heap.size, 1, none⟩ = some (.string a.2) := (by rw [hA.cell]; rfl); have b0 : w'.cell? ⟨w.heap.size + 1, 0, none⟩ = some (.string b.1) := (by rw [hB.cell]; rfl); have b1 : w'.cell? ⟨w.heap.size + 1, 1, none⟩ = some (.string b.2) := (by rw [hB.cell]; rfl)
    go_simp
    try rfl
  try simp only [Act.put, List.setIfInBounds_toArray, List.set_cons_zero, List.set_cons_succ]
  refine held_one (i := 4) (by kernel_rfl) rfl (fun Kc hK => ?_)
  go_simp
  refine (HC.out a.1 b.1 Z0).mono ?_
  rintro e z1 ⟨rfl, hz⟩
  obtain rfl := hz.symm
  refine hK.out _ _ hS0 (fun _ => ?_)
  clear hK Kc
  try simp only [Act.put, List.setIfInBounds_toArray, List.set_cons_zero, List.set_cons_succ]
  refine held_one (i := 9) (by kernel_rfl) rfl (fun Kc hK => ?_)
  go_simp
  refine (HC.out a.2 b.2 Z0).mono ?_
  rintro e z1 ⟨rfl, hz⟩
  obtain rfl := hz.symm
  refine hK.out _ _ hS0 (fun _ => ?_)
  clear hK Kc
  try simp only [Act.put, List.setIfInBounds_toArray, List.set_cons_zero, List.set_cons_succ]
  refine held_one (i := 10) (by kernel_rfl) rfl (fun Kc hK => ?_)
  go_simp
  have hA2 : Below Z0.heap.size Z0 (Z0.alloc (.cells #[.int .i64 (cB a.1 b.1), .int .i64 (cB a.2 b.2)] 3)) := (Below.refl _ _).alloc (Nat.le_refl _) _
  have hor := Blk.new Z0 3 #[.int .i64 (cB a.1 b.1), .int .i64 (cB a.2 b.2)]
  have hGr2 := hGr.alloc (.cells #[.int .i64 (cB a.1 b.1), .int .i64 (cB a.2 b.2)] 3)
  have hS1 := hS0.trans (hA2.mono hS0.size)
  refine hK.out _ _ hS1 (fun _ => ?_)
  clear hK Kc
  try simp only [Act.put, List.setIfInBounds_toArray, List.set_cons_zero, List.set_cons_succ]
  refine held_one (i := 11) (by kernel_rfl) rfl (fun Kc hK => ?_)
  go_simp
  refine (cmpor_any _ _ _ _ hor).mono ?_
  rintro e z2 ⟨rfl, hz2⟩
  have hS2 := hS1.trans (hz2.below.mono hS1.size)
  have hGr3 := hGr2.trans hz2
  refine hK.out _ _ hS2 (fun _ => ?_)
  clear hK Kc
  try simp only [Act.put, List.setIfInBounds_toArray, List.set_cons_zero, List.set_cons_succ]
  refine' wpAnyH_take (i := 12) (oi := ⟨some 4, _, _, _, _, _⟩) (v := _) rfl (by kernel_rfl) (by kernel_rfl) (by kernel_rfl) (fun _ _ _ h => h) (Or.inl ⟨by rfl, ?y12a⟩) hS2 ?r12a
  case y12a =>
    intro w' hSw
    go_simp
    try rfl
  try simp only [Act.put, List.setIfInBounds_toArray, List.set_cons_zero, List.set_cons_succ]
  refine wpAnyH_done (by kernel_rfl) ?_ _
  go_wp2
  go_ret
  exact ⟨by rw [← HR.out]; rfl, hGr3⟩
theorem swo_key : SWO (ltOf cY) where
  irrefl x := by
    have : ¬ cY x x < 0 := fun h => LtY.irrefl x ((cY_lt x x).1 h)
    simp only [ltOf, decide_eq_false_iff_not]; exact this
  trans x y z h1 h2 := by
    simp only [ltOf, decide_eq_true_iff] at *
    exact (cY_lt x z).2 (((cY_lt x y).1 h1).trans ((cY_lt y z).1 h2))
  ntrans x y z h1 h2 := by
    simp only [ltOf, decide_eq_false_iff_not, cY_lt] at *
    intro h
    rcases LtY.tri x y with a | a | a
    · exact h1 a
    · subst a; exact h2 h
    · exact h2 (a.trans h)
theorem cmp_key (blk off size : Nat) (w : World) : CmpLays Tryz.prog 82 #[] kKy.en 2 cY blk off size w := by
  intro m os dk _ x y
  exact byTopic_any x y _
set_option maxHeartbeats 1000000 in
theorem ysort_any (v : Value) (L : List Ky) (base : Nat) (w : World) (ho : OwnK kKy w base v L) (hl : L.length ≤ 100000) :
    Calls Tryz.prog 105 #[v, .func (.func 82) #[] #[]] w fun e w' => e = .returned (.tuple #[]) ∧ ∃ M, OwnK kKy w' base v M ∧ OrdY M ∧ M.Perm L ∧ w.grownBy w' v.ownBlock := by
  rcases ho.2 with ⟨rfl, h0⟩ | ⟨g, cap, cur, rfl, hg, hh, _⟩
  · obtain rfl : L = [] := List.eq_nil_of_length_eq_zero h0
    refine (AnyF.slices_SortFunc_none { Tryz.sortY with } none 0 _ w).mono ?_
    rintro e w' ⟨rfl, rfl⟩
    exact ⟨rfl, [], OwnK.nil, List.Pairwise.nil, List.Perm.refl _, World.grownBy.refl _ _⟩
  · have hlt := ho.lt g rfl
    have hH := (ho.putK L.toArray (by simp) 0 #[]).1
    have eg : ∀ args w, (callFunc 82 args).run Tryz.prog w = .ok (.enter 82 args) w := enters_of Tryz.func82 (by kernel_rfl) rfl
    have hcon := AnyQ.slices_SortFunc Tryz.sortY 2 Tryz.isAgg39 Tryz.sizeOf39 kKy.en kKy.len kKy.one cY swo_key 82 #[] g 0 cap L.toArray w eg (cmp_key g 0 _ w) hH hlt.2 (by simp; omega)
    refine hcon.mono ?_
    rintro e w' ⟨rfl, d', n, os, hp, hs, rfl⟩
    have hd : d'.size = L.length := by simpa using hp.1
    obtain ⟨_, h2, h3⟩ := ho.putK d' hd n os
    refine ⟨rfl, d'.toList, h2, ?_, by
      have h5 := hp.2.2
      have e1 : d'.extract 0 L.toArray.size = d' := by rw [List.size_toArray, ← hd]; simp
      have e2 : L.toArray.extract 0 L.toArray.size = L.toArray := by simp
      rw [e1, e2] at h5
      simpa using h5, h3⟩
    refine List.pairwise_iff_getElem.2 fun i j hi hj hij => ?_
    have hi' : i < d'.size := by simpa using hi
    have hj' : j < d'.size := by simpa using hj
    have := hs i j (Nat.zero_le _) hij (by rw [List.size_toArray, ← hd]; exact hj')
    rw [getElem!_pos d' i hi', getElem!_pos d' j hj'] at this
    simp only [ltOf, decide_eq_false_iff_not, cY_lt] at this
    simpa using this
theorem own_ky {w : World} {base : Nat} {v : Value} {L : List Ky} (h : OwnK kKy w base v L) : OwnDY w base v L := h
theorem ky_own {w : World} {base : Nat} {v : Value} {L : List Ky} (h : OwnDY w base v L) : OwnK kKy w base v L := h
/-- The keys of the live dots, in order, each once. -/
structure KeysOf_ (K : Kl) (M : List Ky) : Prop where
  rise : RiseY M
  mem : ∀ k, k ∈ M ↔ ∃ q ∈ K, q.2 = k
set_option maxHeartbeats 1000000 in
theorem sortedY_any (gf : Nat) (lb : Array Value) (S : List Ky → Prop) (B : Nat) (w0 w : World) (hB : w0.heap.size ≤ B) (hS : ∀ ss, S ss → ss.length ≤ 100000)
    (hcol : Calls Tryz.prog 104 #[.func (.func gf) #[] lb] w fun e w' => ∃ v ss, e = .returned v ∧ S ss ∧ OwnK kKy w' B v ss ∧ Below w0.heap.size w0 w') :
    Calls Tryz.prog 80 #[.func (.func gf) #[] lb, .func (.func 82) #[] #[]] w fun e w' => ∃ v ss M, e = .returned v ∧ S ss ∧ M.Perm ss ∧ OrdY M ∧ OwnK kKy w' B v M ∧ Below w0.heap.size w0 w' := by
  have HC := Lib.hid hcol
  clear hcol
  go_enter Tryz.func80, Tryz.ntmps80
  go_wp2_with fail
  refine HC.out.mono ?_
  rintro e w1 ⟨v, ss, rfl, hs, ho, hb⟩
  have HS := Lib.hid (ysort_any v ss B w1 ho (hS ss hs))
  have HB := Lib.hid (And.intro hs hb)
  have HLO := Lib.hid (fun i e => (ho.lt i e).1)
  obtain ⟨A, n, c, rfl⟩ := ho.shape3
  clear HC hs ho hb
  go_wp2_with fail
  refine HS.out.mono ?_
  rintro e w2 ⟨rfl, M, ho2, hord, hp, hg⟩
  have HF := Lib.hid (And.intro hp (And.intro hord (And.intro ho2 (HB.out.2.grown hg HB.out.2.size (fun i e => Nat.le_trans hB (HLO.out i e))))))
  clear HS ho2 hord hp hg
  go_wp2
  go_ret
  exact ⟨_, ss, M, rfl, HB.out.1, HF.out.1, HF.out.2.1, HF.out.2.2.1, HF.out.2.2.2⟩
section
variable {w w' : World} {p g : Nat} {v : Value} {V : List Nat} {X : List Dt} {b1 b2 : Nat} {K : Kl} {T : Tl}
set_option maxHeartbeats 2000000 in
theorem okeys_any (h : Os w p g v V X b1 b2 K T) (hN : K.length ≤ 40000) :
    Calls Tryz.prog 39 #[.pointer (some ⟨p, 0, none⟩)] w fun e w' => ∃ vi M, e = .returned vi ∧ KeysOf_ K M ∧ OwnK kKy w' w.heap.size vi M ∧ M.length ≤ K.length ∧ Below w.heap.size w w' := by
  have H := Lib.hid h
  have HL := Lib.hid (olook_any h)
  have hK := h.ma.okl
  clear h
  have hsf1 : ∀ a b c W, (Instr.field 84 (.agg #[a, b, c]) 1).run Tryz.prog W = .ok b W := fun a b c W => set_f1 a b c W
  go_enter Tryz.func39, Tryz.ntmps39
  go_wp2_with fail
  refine HL.out.mono ?_
  rintro e w1 ⟨rfl, hb1⟩
  have h1 := H.out.below hb1
  have hown := h1.ma.live
  clear HL
  go_wp2_with fail
  refine (valsK_any (some b1) w1).mono ?_
  rintro e w2 ⟨rfl, rfl⟩
  have HG := Lib.hid (gatherV_any b1 K.length hK (by omega) w1 hown)
  have HS := Lib.hid (sortedY_any 106 #[.pointer (some ⟨w1.heap.size, 0, none⟩)] (AllV K) (w1.heap.size + 1) w1 _ (by omega)
    (by
      rintro ss ⟨ds, hd, rfl⟩
      have hp : ds.Perm (K.map Prod.fst) := (List.perm_ext_iff_of_nodup hd.1 (by rw [List.Nodup, List.pairwise_map]; exact hK.1)).2 hd.2
      have := hp.length_eq
      rw [List.length_map] at this ⊢
      omega) HG.out)
  have hmf : ∀ (fn : Fn) (first cap : Array Value) (w : World), (Instr.makeFunc fn first cap).run Tryz.prog w = .ok (.func fn first cap) w := fun _ _ _ _ => rfl
  have HB1 := Lib.hid hb1
  clear h1 hown hb1 HG
  go_wp2_with fail
  refine HS.out.mono ?_
  rintro e w3 ⟨v3, ss, M, rfl, hss, hp, hord, ho3, hb3⟩
  have hml : M.length = K.length ∧ ∀ k, k ∈ M ↔ ∃ q ∈ K, q.2 = k := by
    obtain ⟨ds, hd, rfl⟩ := hss
    have hp2 : ds.Perm (K.map Prod.fst) := (List.perm_ext_iff_of_nodup hd.1 (by rw [List.Nodup, List.pairwise_map]; exact hK.1)).2 hd.2
    refine ⟨by have h1 := hp.length_eq; have h2 := hp2.length_eq; rw [List.length_map] at h1 h2; omega, fun k => ?_⟩
    rw [hp.mem_iff, List.mem_map]
    constructor
    · rintro ⟨d, hdm, rfl⟩
      exact ⟨_, keyAt_mem ((hd.2 d).1 hdm), rfl⟩
    · rintro ⟨q, hq, rfl⟩
      exact ⟨q.1, (hd.2 q.1).2 (List.mem_map.2 ⟨q, hq, rfl⟩), keyAt_of hK hq⟩
  have HU := Lib.hid (uniq_anyY v3 M (w1.heap.size + 1) w3 (own_ky ho3) (by omega) hord)
  have HM := Lib.hid hml
  have HB3 := Lib.hid (HB1.out.trans (hb3.mono HB1.out.size))
  have HLO := Lib.hid (fun i e => (ho3.lt i e).1)
  have HZ := Lib.hid HB1.out.size
  obtain ⟨A, n, c, rfl⟩ := ho3.shape3
  clear HS hss hp hord ho3 hb3 hml
  go_wp2_with fail
  refine HU.out.mono ?_
  rintro e w4 ⟨v4, N, rfl, ho4, hr, hm, hnl, hg⟩
  have HF := Lib.hid (And.intro (ky_own ho4) (And.intro hr (And.intro hm (HB3.out.grown hg HB3.out.size (fun i e => by have := HLO.out i e; have := HZ.out; omega)))))
  have HNL := Lib.hid hnl
  clear HU ho4 hr hm hg hnl
  go_wp2
  go_ret
  exact ⟨_, N, rfl, ⟨HF.out.2.1, fun k => by rw [HF.out.2.2.1, HM.out.2]⟩, HF.out.1.mono (by have := HZ.out; omega), by have := HNL.out; have := HM.out.1; omega, HF.out.2.2.2⟩
end
end Go.Proofs.YtldfaaahmpncbaaGreat

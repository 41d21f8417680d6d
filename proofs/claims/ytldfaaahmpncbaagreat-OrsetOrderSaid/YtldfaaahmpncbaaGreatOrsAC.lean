/-
  The keys of a set's maps, gone through by maps.Keys: what its iterator hands over.
-/
import Derived.Test.YtldfaaahmpncbaaGreatOrsAA
import Derived.Test.YtldfaaahmpncbaaGreatWRangeA
import Derived.Sort.MapsRangeIn
import Derived.Sort.KeysCollected
import Derived.RangeFuncSeq
import Derived.RangeFuncGives
import Derived.Deep.MidRow
import Derived.OwnWalkIn
import Derived.TacticsInMore
import Derived.RegionIn
import Derived.LoopNIn
import Derived.LoopIn
import Derived.Test.YtldfaaahmpncbaaGreatCtxApp
import Derived.Maps.OwnIn
import Derived.Test.YtldfaaahmpncbaaGreatCtxUniq
import Derived.Test.YtldfaaahmpncbaaGreatCtxSort
namespace Go.Proofs.YtldfaaahmpncbaaGreat
open Go.RowKit Go.Maps Go.Sort
open CtxM
set_option linter.unusedVariables false
set_option linter.unusedSimpArgs false
set_option maxRecDepth 100000
attribute [local go_sem] Oper.semAt_some

/-- A step of the iterator's own. -/
def StM (B : Nat) (A C : World) : Prop := ∃ row, A.grownBy C row ∧ ∀ r, row = some r → B ≤ r ∧ ∃ o : Obj, A.heap[r]? = some o ∧ o.isWalk = true
theorem StM.quiet (B : Nat) : Quiet (StM B) := by
  rintro A C ⟨row, hg, hr⟩
  refine ⟨hg.size, fun k o hk _ hw => (hg.block k (Array.getElem?_eq_some_iff.1 hk).1 (fun e => ?_)).trans hk⟩
  obtain ⟨_, o', ho', hw'⟩ := hr k e.symm
  rw [hk] at ho'
  cases ho'
  rw [hw] at hw'; cases hw'
theorem StM.none {B : Nat} {A C : World} (h : A.grownBy C none) : StM B A C := ⟨_, h, fun r e => by cases e⟩
def encDt (d : Dt) : Array Value := #[dval d]
section
variable {α : Type} {R : α → DataW Unit} {L : List (Dt × α)}
/-- What has come of the keys, and what is left. -/
def Come (L : List (Dt × α)) (left : Lit → Bool) (ss : List Dt) : Prop := ss.Nodup ∧ ∀ d, d ∈ ss ↔ (d ∈ L.map Prod.fst ∧ left (litD d) = false)
/-- All have come. -/
def AllD (L : List (Dt × α)) (ss : List Dt) : Prop := ss.Nodup ∧ ∀ d, d ∈ ss ↔ d ∈ L.map Prod.fst
theorem Come.start (h : OkL L) : Come L (Maps.has (MD R L)) [] := by
  refine ⟨List.nodup_nil, fun d => ⟨fun hd => (by cases hd), fun ⟨hm, hl⟩ => ?_⟩⟩
  obtain ⟨p, hp, rfl⟩ := List.mem_map.1 hm
  rw [has_MD h (h.2 p hp), decide_eq_true hm] at hl
  cases hl
theorem Come.all {left : Lit → Bool} {ss : List Dt} (h : Come L left ss) (hl : ∀ kl, left kl = false) : AllD L ss := ⟨h.1, fun d => by rw [h.2 d, hl]; simp⟩
theorem key_of_has (h : OkL L) {key : Value} {kl : Lit} (hk : keyOf Tryz.prog 41 key = some kl) (hh : Maps.has (MD R L) kl = true) : ∃ p ∈ L, kl = litD p.1 ∧ key = dval p.1 := by
  unfold MD at hh
  rw [Maps.has_eq] at hh
  obtain ⟨q, hq, hs⟩ := List.any_eq_true.1 hh
  obtain ⟨p, hp, rfl⟩ := mem_MD.1 hq
  have e : litD p.1 = kl := WideAt.sameKey_eq hs
  refine ⟨p, hp, e.symm, ?_⟩
  subst e
  exact dotK.inj hk (keyOf_dot (h.2 p hp))
theorem same_litD (a b : Dt) : (litD a).sameKey (litD b) = true ↔ litD a = litD b :=
  ⟨fun h => WideAt.sameKey_eq h, fun h => by rw [h]; exact WideAt.sameKey_self (litD_key _)⟩
theorem Come.step (hL : OkL L) {left : Lit → Bool} {ss : List Dt} (h : Come L left ss) {p : Dt × α} (hp : p ∈ L) (hk : left (litD p.1) = true) : Come L (fun z => left z && !z.sameKey (litD p.1)) (ss ++ [p.1]) := by
  have hnew : p.1 ∉ ss := fun hx => by have := ((h.2 _).1 hx).2; rw [hk] at this; cases this
  refine ⟨List.nodup_append.2 ⟨h.1, by simp, fun a ha b hb => by simp at hb; subst hb; exact fun e => hnew (e ▸ ha)⟩, fun d => ?_⟩
  rw [List.mem_append, List.mem_singleton, h.2 d]
  constructor
  · rintro (⟨h1, h2⟩ | rfl)
    · exact ⟨h1, by show (left (litD d) && _) = false; rw [h2]; rfl⟩
    · exact ⟨List.mem_map.2 ⟨p, hp, rfl⟩, by show (_ && !(litD p.1).sameKey (litD p.1)) = false; rw [(same_litD _ _).2 rfl]; simp⟩
  · rintro ⟨h1, h2⟩
    by_cases e : left (litD d) = false
    · exact .inl ⟨h1, e⟩
    · right
      have e' : left (litD d) = true := by cases hx : left (litD d) <;> simp_all
      obtain ⟨q, hq, rfl⟩ := List.mem_map.1 h1
      have h2' : (left (litD q.1) && !(litD q.1).sameKey (litD p.1)) = false := h2
      rw [e', Bool.true_and] at h2'
      have h3 : litD q.1 = litD p.1 := (same_litD _ _).1 (by cases hx : (litD q.1).sameKey (litD p.1) <;> simp_all)
      exact litD_inj (hL.2 q hq) (hL.2 p hp) h3
end
/-- A dot laid into a block just made. -/
theorem grown_dot (w : World) (t : TypeId) (C : Array Value) (l : List Value) : w.grownBy ((w.alloc (.cells C t)).setCells w.heap.size 0 l) none := by
  refine World.grownBy.andThen (b' := w.alloc (.cells C t)) (w.grownBy_alloc _ none) (row' := some w.heap.size) ?_ (fun j e => by injection e with e; exact .inl (by omega))
  have : ∀ (l : List Value) (i : Nat) (W : World), W.grownBy (W.setCells w.heap.size i l) (some w.heap.size) := by
    intro l
    induction l with
    | nil => intro i W; exact ⟨rfl, rfl, rfl, Nat.le_refl _, fun k _ _ => rfl⟩
    | cons v l ih => intro i W; exact World.grownBy.andThen (grown_setCell W _ i v) (ih (i + 1) _) (fun j e => .inr e)
  exact this l 0 _

theorem enter_keysK : ∀ args w, (callFunc 121 args).run Tryz.prog w = .ok (.enter 121 args) w := fun _ _ => by kernel_rfl
set_option maxHeartbeats 4000000 in
theorem keysK_in (n : Nat) (hn1 : 1 ≤ n) (l Bm b nn : Nat) {L : List (Dt × Ky)} (hL : OkL L) (J Jx : List Dt → World → Prop) (W : World) (B0 : Nat) (hB0 : B0 ≤ W.heap.size)
    (hJ : ∀ s A B, J s A → StM B0 A B → J s B)
    (hY : ∀ pre x W1, J pre W1 → OkD x → pre.length < L.length → YieldAt Fence.wide (n - 1) Tryz.prog l (encDt x) W1 fun e W' => (e = .returned (.bool true) ∧ J (pre ++ [x]) W' ∧ KeepsWalks W1 W') ∨ (e = .returned (.bool false) ∧ Jx (pre ++ [x]) W'))
    (hm : W.cell? ⟨Bm, 0, none⟩ = some (.map (some b))) (hown : W.ownsMap Tryz.prog 41 keyR b nn (MD keyD L)) (h0 : J [] W) :
    CallsIn Fence.wide n Tryz.prog 121 #[.func (.yield l) #[] #[], .pointer (some ⟨Bm, 0, none⟩)] W fun e W' => (∃ v, e = .returned v) ∧
      ((∃ ss : List Dt, AllD L ss ∧ J ss W') ∨ (∃ pre : List Dt, True ∧ Jx pre W')) := by
  refine callsIn_of_wp Tryz.func121 rfl trivial ?_ rfl
  simp only [Tryz.ntmps121, List.size_toArray, List.length_cons, List.length_nil, Nat.reduceAdd, Nat.reduceSub, Array.replicate_succ, Array.replicate_zero, List.push_toArray, List.append_toArray, List.nil_append, List.cons_append]
  gi_wp2_with (first
    | (gi_at_range; refine wpListIn_range_own _ rfl _ 81 rfl 41 39 dotK Tryz.underlying81 _ b nn _ rfl hown ?_; intro w0 hrg0 hg0 hs0)
    | gi_in)
  go_frame
  gi_loopw [] (fun wr => ∃ (left : Lit → Bool) (cnt : Nat) (ss : List Dt), wr.ranges Tryz.prog 41 keyR b W.heap.size nn (MD keyD L) left cnt ∧ ss.length + cnt ≤ L.length ∧ Come L left ss ∧ J ss wr)
    (fun wr => wr.rangeLeft b W.heap.size)
  case atStart =>
    exact ⟨_, _, [], hrg0, by rw [size_MD]; simp, Come.start hL, hJ [] W w0 h0 (.none hg0)⟩
  case round =>
    obtain ⟨left, cnt, ss, hrg, hcs, hC, hJs⟩ := hrel
    gi_wp2_with (first
      | (gi_at_next; refine wpListIn_next_ranges _ rfl _ rfl 41 dotK keyR (id : Value → Value) id (fun key kl hk => ⟨key, rfl⟩) (fun v _ _ => ⟨v, rfl⟩) b W.heap.size nn _ _ _ rfl hrg ?_ ?_)
      | gi_in)
    · intro hc0 hl0
      gi_wp2
      go_end0
      exact ⟨⟨_, rfl⟩, .inl ⟨ss, hC.all hl0, hJs⟩⟩
    · intro x c kl yd yp w2 cnt2 hkey hlk hv hat hrg2 hlt hg2 hs2 hen
      obtain ⟨p, hp, rfl, rfl⟩ := key_of_has hL hkey (has_true_of_atKey hat)
      have hJ2 : J ss w2 := hJ ss wr w2 hJs ⟨_, hg2, fun r e => by cases e; exact ⟨hB0, hrg.iter_walk⟩⟩
      have hC2 := hC.step hL hp hlk
      clear hs2
      obtain ⟨⟨d1, d2⟩, a⟩ := p
      have hen2 : (Instr.entry (.pointer (some ⟨W.heap.size, 0, none⟩))).run Tryz.prog w2 = .ok (.tuple #[.agg #[.int .i64 d1, .int .u64 (d2 : Int)], c]) w2 := hen
      have hod : OkD (d1, d2) := hL.2 _ hp
      have hJ3 : J ss (w2.alloc (.cells #[.int .i64 d1, .int .u64 (d2 : Int)] 41)) := hJ ss _ _ hJ2 (.none (World.grownBy_alloc _ _ none))
      have hrg3 := hrg2.kept (World.grownBy_alloc w2 (.cells #[.int .i64 d1, .int .u64 (d2 : Int)] 41) none) (by simp) (by simp)
      obtain ⟨fn, tmps, assign, body, hy, hR⟩ := hY ss (d1, d2) _ hJ3 hod (by omega)
      simp only [encDt, dval] at hy
      clear hen
      gi_wp2
      refine hR.mono ?_
      rintro e W3 (⟨rfl, hJ4, hk4⟩ | ⟨rfl, hJx4⟩)
      · gi_wp2
        have hrg4 := hrg3.of_walks hk4
        go_roundw
        case rel => exact ⟨_, cnt2, ss ++ [(d1, d2)], hrg4, by simp; omega, hC2, hJ4⟩
        case measure => rw [hrg4.left_eq, hrg.left_eq]; exact hlt
      · gi_wp2
        refine bodyPost_ret (results_none rfl _ _ _) rfl ?_
        exact ⟨⟨_, rfl⟩, .inr ⟨ss ++ [(d1, d2)], trivial, hJx4⟩⟩
theorem enter_keysU : ∀ args w, (callFunc 123 args).run Tryz.prog w = .ok (.enter 123 args) w := fun _ _ => by kernel_rfl
set_option maxHeartbeats 4000000 in
theorem keysU_in (n : Nat) (hn1 : 1 ≤ n) (l Bm b nn : Nat) {L : List (Dt × Unit)} (hL : OkL L) (J Jx : List Dt → World → Prop) (W : World) (B0 : Nat) (hB0 : B0 ≤ W.heap.size)
    (hJ : ∀ s A B, J s A → StM B0 A B → J s B)
    (hY : ∀ pre x W1, J pre W1 → OkD x → pre.length < L.length → YieldAt Fence.wide (n - 1) Tryz.prog l (encDt x) W1 fun e W' => (e = .returned (.bool true) ∧ J (pre ++ [x]) W' ∧ KeepsWalks W1 W') ∨ (e = .returned (.bool false) ∧ Jx (pre ++ [x]) W'))
    (hm : W.cell? ⟨Bm, 0, none⟩ = some (.map (some b))) (hown : W.ownsMap Tryz.prog 41 unitElem b nn (MD unD L)) (h0 : J [] W) :
    CallsIn Fence.wide n Tryz.prog 123 #[.func (.yield l) #[] #[], .pointer (some ⟨Bm, 0, none⟩)] W fun e W' => (∃ v, e = .returned v) ∧
      ((∃ ss : List Dt, AllD L ss ∧ J ss W') ∨ (∃ pre : List Dt, True ∧ Jx pre W')) := by
  refine callsIn_of_wp Tryz.func123 rfl trivial ?_ rfl
  simp only [Tryz.ntmps123, List.size_toArray, List.length_cons, List.length_nil, Nat.reduceAdd, Nat.reduceSub, Array.replicate_succ, Array.replicate_zero, List.push_toArray, List.append_toArray, List.nil_append, List.cons_append]
  gi_wp2_with (first
    | (gi_at_range; refine wpListIn_range_own _ rfl _ 82 rfl 41 93 dotK Tryz.underlying82 _ b nn _ rfl hown ?_; intro w0 hrg0 hg0 hs0)
    | gi_in)
  go_frame
  gi_loopw [] (fun wr => ∃ (left : Lit → Bool) (cnt : Nat) (ss : List Dt), wr.ranges Tryz.prog 41 unitElem b W.heap.size nn (MD unD L) left cnt ∧ ss.length + cnt ≤ L.length ∧ Come L left ss ∧ J ss wr)
    (fun wr => wr.rangeLeft b W.heap.size)
  case atStart =>
    exact ⟨_, _, [], hrg0, by rw [size_MD]; simp, Come.start hL, hJ [] W w0 h0 (.none hg0)⟩
  case round =>
    obtain ⟨left, cnt, ss, hrg, hcs, hC, hJs⟩ := hrel
    gi_wp2_with (first
      | (gi_at_next; refine wpListIn_next_ranges _ rfl _ rfl 41 dotK unitElem (id : Value → Value) id (fun key kl hk => ⟨key, rfl⟩) (fun v _ _ => ⟨v, rfl⟩) b W.heap.size nn _ _ _ rfl hrg ?_ ?_)
      | gi_in)
    · intro hc0 hl0
      gi_wp2
      go_end0
      exact ⟨⟨_, rfl⟩, .inl ⟨ss, hC.all hl0, hJs⟩⟩
    · intro x c kl yd yp w2 cnt2 hkey hlk hv hat hrg2 hlt hg2 hs2 hen
      obtain ⟨p, hp, rfl, rfl⟩ := key_of_has hL hkey (has_true_of_atKey hat)
      have hJ2 : J ss w2 := hJ ss wr w2 hJs ⟨_, hg2, fun r e => by cases e; exact ⟨hB0, hrg.iter_walk⟩⟩
      have hC2 := hC.step hL hp hlk
      clear hs2
      obtain ⟨⟨d1, d2⟩, a⟩ := p
      have hen2 : (Instr.entry (.pointer (some ⟨W.heap.size, 0, none⟩))).run Tryz.prog w2 = .ok (.tuple #[.agg #[.int .i64 d1, .int .u64 (d2 : Int)], c]) w2 := hen
      have hod : OkD (d1, d2) := hL.2 _ hp
      have hJ3 : J ss (w2.alloc (.cells #[.int .i64 d1, .int .u64 (d2 : Int)] 41)) := hJ ss _ _ hJ2 (.none (World.grownBy_alloc _ _ none))
      have hrg3 := hrg2.kept (World.grownBy_alloc w2 (.cells #[.int .i64 d1, .int .u64 (d2 : Int)] 41) none) (by simp) (by simp)
      obtain ⟨fn, tmps, assign, body, hy, hR⟩ := hY ss (d1, d2) _ hJ3 hod (by omega)
      simp only [encDt, dval] at hy
      clear hen
      gi_wp2
      refine hR.mono ?_
      rintro e W3 (⟨rfl, hJ4, hk4⟩ | ⟨rfl, hJx4⟩)
      · gi_wp2
        have hrg4 := hrg3.of_walks hk4
        go_roundw
        case rel => exact ⟨_, cnt2, ss ++ [(d1, d2)], hrg4, by simp; omega, hC2, hJ4⟩
        case measure => rw [hrg4.left_eq, hrg.left_eq]; exact hlt
      · gi_wp2
        refine bodyPost_ret (results_none rfl _ _ _) rfl ?_
        exact ⟨⟨_, rfl⟩, .inr ⟨ss ++ [(d1, d2)], trivial, hJx4⟩⟩
end Go.Proofs.YtldfaaahmpncbaaGreat

namespace Go.Proofs.YtldfaaahmpncbaaGreat
open Go.RowKit Go.Maps Go.Sort
open CtxM
set_option linter.unusedVariables false
set_option linter.unusedSimpArgs false
set_option maxRecDepth 100000
attribute [local go_sem] Oper.semAt_some

theorem wpListIn_append_dots {F : Fence} {nF : Nat} {P : Program} {w : World} {ops : Array Oper} {rest : List Oper} {o : Oper} {a : Act} {Q : Exit → Act → World → Prop} (hgd : o.guard = none) (s x : Operand) (t : TypeId)
    (ho : o.op = .call { callee := .builtin .append, args := #[s, x], argTypes := #[t, t] })
    (base : Nat) (i : TypeInfo) (ht : P.underlying t = some (.slice 41)) (hi : P.info? 41 = some i) (hz : i.zero = some (.agg #[.int .i64 0, .int .u64 0]))
    (hsize : i.size = 2) (hby : i.bytes = 16) (v : Value) (l : List Dt) (hs : a.eval s = v) (hown : OwnD w base v l) (v2 : Value) (m : List Dt) (hx : a.eval x = v2) (hm : Sd w v2 m) (hlen : l.length + m.length ≤ 1000000) (hbase : base ≤ w.heap.size)
    (h : ∀ v' w', OwnD w' base v' (l ++ m) → w.grownBy w' v.ownBlock → (v' = .slice none 0 0 ↔ v = .slice none 0 0 ∧ m.length = 0) → Newer w.heap.size v v' → wpListIn F nF P ops Q rest (a.put o.dst v') w') :
    wpListIn F nF P ops Q (o :: rest) a w := by
  refine wpListIn_plain hgd fun K hK => ?_
  obtain ⟨v', w', hr, h2, h3, h4, h5⟩ := run_append_dots (P := P) w base t o.type i ht hi hz hsize hby v l hown v2 m hm hlen hbase
  unfold Oper.wpIn
  refine ⟨by simp [Oper.about, ho, resolve, Target.leads, Sem.run_pure], ?_⟩
  rw [Oper.semAt_plain F _ _ (by rw [ho]; intro c hc'; cases hc')]
  simp [execOp, ho, resolve, invoke, builtin, hs, hx, hr, Result.andThen]
  exact hK _ _ (h v' w' h2 h3 h4 h5)

theorem grown_put (W : World) (l : Nat) (o : Obj) : W.grownBy (W.putObj l o) (some l) := ⟨rfl, rfl, rfl, by simp, fun k _ hk => World.putObj_heap_other (fun e => hk (by rw [e]))⟩
theorem Blk.put_ {w : World} {g : Nat} {t : TypeId} {cs : Array Value} (h : Blk w g t cs) {l : Nat} {o : Obj} (hl : w.heap[l]? = some o) (hc : o.isCells = false) (o' : Obj) : Blk (w.putObj l o') g t cs := by
  have hne : g ≠ l := by
    rintro rfl
    unfold Blk at h
    rw [h] at hl
    injection hl with hl
    rw [← hl] at hc; cases hc
  unfold Blk at h ⊢
  exact (World.putObj_heap_other hne).trans h
theorem OwnD.blk {w : World} {base : Nat} {v : Value} {L : List Dt} (h : OwnD w base v L) : ∀ k, v.ownBlock = some k → ∃ cs, Blk w k 41 cs := by
  intro k hk
  rcases h.2 with ⟨rfl, _⟩ | ⟨g, cap, cur, rfl, _, hgb, _⟩
  · simp [Value.ownBlock] at hk
  · have : g = k := by simpa [Value.ownBlock] using hk
    subst this; exact ⟨cur, hgb⟩
theorem OwnD.put_ {w : World} {base : Nat} {v : Value} {L : List Dt} (h : OwnD w base v L) {l : Nat} {o : Obj} (hl : w.heap[l]? = some o) (hc : o.isCells = false) (o' : Obj) : OwnD (w.putObj l o') base v L :=
  h.keep fun k hk => by
    obtain ⟨cs, hb⟩ := h.blk k hk
    have := hb.put_ hl hc o'
    unfold Blk at hb this
    rw [hb, this]
theorem StM.blk {B : Nat} {A C : World} (h : StM B A C) {g : Nat} {t : TypeId} {cs : Array Value} (hb : Blk A g t cs) : Blk C g t cs := by
  obtain ⟨row, hg, hr⟩ := h
  refine (hg.block g hb.lt (fun e => ?_)).trans hb
  obtain ⟨_, o, ho, hw⟩ := hr g e.symm
  unfold Blk at hb
  rw [hb] at ho; cases ho; cases hw
theorem StM.own {B base : Nat} {A C : World} (h : StM B A C) {v : Value} {L : List Dt} (ho : OwnD A base v L) : OwnD C base v L :=
  ho.keep fun k hk => by
    obtain ⟨cs, hb⟩ := ho.blk k hk
    have := h.blk hb
    unfold Blk at hb this
    rw [hb, this]
theorem StM.below {B b : Nat} {w A C : World} (hb : Below b w A) (h : StM B A C) (hbB : b ≤ B) (hbA : b ≤ A.heap.size) : Below b w C := by
  obtain ⟨row, hg, hr⟩ := h
  exact hb.grown hg hbA (fun k e => Nat.le_trans hbB (hr k e).1)
theorem KeepsWalks.of_keep {S : Nat → Prop} {A C : World} (h : Keep S A C) (hS : ∀ k, S k → ∀ o, A.heap[k]? = some o → o.isWalk = false) : KeepsWalks A C :=
  ⟨h.size, fun k o hk hw => (h.block k (Array.getElem?_eq_some_iff.1 hk).1 (fun hs => by rw [hS k hs o hk] at hw; cases hw)).trans hk⟩
theorem KeepsFrom.of_keep {S : Nat → Prop} {B : Nat} {A C : World} (h : Keep S A C) (hS : ∀ k, S k → ∀ o, A.heap[k]? = some o → o.isCells = true) : KeepsFrom B A C :=
  ⟨h.size, fun k o _ hk hc => (h.block k (Array.getElem?_eq_some_iff.1 hk).1 (fun hs => by rw [hS k hs o hk] at hc; cases hc)).trans hk⟩

/-- What has been gathered: s stands in a box at g, its row from 'hi' on. -/
def ApI (w0 : World) (g hi : Nat) (pre : List Dt) (W : World) : Prop :=
  Below w0.heap.size w0 W ∧ hi ≤ W.heap.size ∧ ∃ v, Blk W g 30 #[v] ∧ OwnD W hi v pre
theorem ApI.abs {w0 : World} {g hi B : Nat} (hB : w0.heap.size ≤ B) : Abs B (StM w0.heap.size) (ApI w0 g hi) := by
  refine ⟨?_, ?_, ?_⟩
  · rintro pre W l o o' ⟨hb, hs, v, b1, ho⟩ hl hlo hc _
    exact ⟨hb.grown (grown_put W l o') hb.size (fun k e => by injection e with e; omega), Nat.le_trans hs (grown_put W l o').size, v, b1.put_ hlo hc o', ho.put_ hlo hc o'⟩
  · rintro pre W o ⟨hb, hs, v, b1, ho⟩
    exact ⟨hb.alloc hb.size _, Nat.le_trans hs (by simp), v, b1.alloc _, ho.alloc _⟩
  · rintro pre A C ⟨hb, hs, v, b1, ho⟩ hst
    have hsz : A.heap.size ≤ C.heap.size := (StM.quiet _ A C hst).1
    exact ⟨StM.below hb hst (Nat.le_refl _) hb.size, Nat.le_trans hs hsz, v, hst.blk b1, hst.own ho⟩

set_option maxHeartbeats 8000000 in
theorem appendSeq_any {gf : Nat} {lb : Array Value} (eg : ∀ args w, (callFunc gf args).run Tryz.prog w = .ok (.enter gf args) w) {S : List Dt → Prop} {N : Nat} (hN : N ≤ 900000) (w : World)
    (hseq : SeqX Fence.wide 7 Tryz.prog gf lb encDt (fun x _ => OkD x) (StM w.heap.size) KeepsWalks S (fun _ => True) N w) :
    Calls Tryz.prog 120 #[.slice none 0 0, .func (.func gf) #[] lb] w fun e w' => ∃ v ss, e = .returned v ∧ S ss ∧ OwnD w' w.heap.size v ss ∧ Below w.heap.size w w' := by
  obtain ⟨i0, hi, hy0, hy1, hy2⟩ := info_parts info_dot
  refine (callsIn_wide (n := 8)).1 ?_
  refine callsIn_of_wp_marks Tryz.func120 rfl trivial ?_ rfl
  simp only [Tryz.ntmps120, List.size_toArray, List.length_cons, List.length_nil, Nat.reduceAdd, Nat.reduceSub, Array.replicate_succ, Array.replicate_zero, List.push_toArray, List.append_toArray, List.nil_append, List.cons_append]
  have HI0 := Lib.hid (show ApI w w.heap.size (w.heap.size + 1) [] (w.alloc (.cells #[.slice none 0 0] 30)) from ⟨(Below.refl _ _).alloc (Nat.le_refl _) _, by simp, _, Blk.new _ _ _, OwnD.nil⟩)
  have hbw : Below w.heap.size w (w.alloc (.cells #[.slice none 0 0] 30)) := (Below.refl _ _).alloc (Nat.le_refl _) _
  have hsz1 : (w.alloc (.cells #[.slice none 0 0] 30)).heap.size = w.heap.size + 1 := by simp
  gi_wp2_with fail
  generalize w.alloc (.cells #[.slice none 0 0] 30) = w1 at HI0 hbw hsz1 ⊢
  refine' range_y rfl (by omega) (gf := gf) (lb := lb) rfl trivial eg hseq (StM.quiet _) (fun {A B C} h k => h.trans k) ?hKb hbw (fun _ => rfl) (fun x W l o o' hx _ _ => hx)
    (ApI w w.heap.size (w.heap.size + 1)) (fun _ _ _ => False) (ApI.abs (by omega)) (fun _ => ⟨fun _ _ _ _ _ h => h.elim, fun _ _ _ h => h.elim, fun _ _ _ h => h.elim⟩) HI0.out
    (fun pre x a' W => ApI w w.heap.size (w.heap.size + 1) pre W ∧ pre.length < N ∧ ∃ gd, Blk W gd 41 #[.int .i64 x.1, .int .u64 (x.2 : Int)] ∧ a' = { tmps := #[.slice none 0 0, .func (.func gf) #[] lb, .pointer (some ⟨w.heap.size, 0, none⟩), undef, .slice none 0 0, .pointer (some ⟨gd, 0, none⟩), .func (.func gf) #[] lb, .agg #[.int .i64 x.1, .int .u64 (x.2 : Int)], undef, undef, undef, undef, undef], defers := [] })
    ?hRb ?assign ?body ?done ?stop
  case hKb =>
    intro W l o o' hl ho hc hw
    exact KeepsWalks.putObj _ ho hw
  case hRb =>
    rintro pre x a' W l o o' ⟨h1, h3, gd, h2, rfl⟩ hl ho hc hw
    exact ⟨(ApI.abs (B := w1.heap.size) (by omega)).book _ _ _ _ _ h1 hl ho hc hw, h3, gd, h2.put_ ho hc o', rfl⟩
  case assign =>
    rintro l pre ⟨x1, x2⟩ W K hI hX hlen hK
    simp only [encDt, dval]
    gi_wp2
    refine hK _ _ ?_ ?_ ?_
    · exact KeepsFrom.of_keep (S := fun _ => False) (Keep.of_below ((Below.refl _ _).alloc (Nat.le_refl _) _)) (fun k h => h.elim)
    · exact KeepsWalks.alloc _ _
    · exact ⟨(ApI.abs (B := w1.heap.size) (by omega)).more _ _ _ hI, hlen, _, Blk.new _ _ _, rfl⟩
  case stop =>
    intro D c pre W hD' _ h _
    exact h.elim
  case body =>
    rintro l pre ⟨x1, x2⟩ a' W ⟨hI, hlen, gd, hgd, rfl⟩
    obtain ⟨hb, hs, v, b1, ho⟩ := hI
    replace hgd : Blk W gd 41 #[.int .i64 x1, .int .u64 (x2 : Int)] := hgd
    obtain ⟨Av, nv, cv, rfl⟩ := ho.shape
    have q1 : W.cell? ⟨w.heap.size, 0, none⟩ = some (.slice Av nv cv) := by rw [b1.cell]; rfl
    have c0 : W.cell? ⟨gd, 0, none⟩ = some (.int .i64 x1) := by rw [hgd.cell]; rfl
    have c1 : W.cell? ⟨gd, 1, none⟩ = some (.int .u64 (x2 : Int)) := by rw [hgd.cell]; rfl
    have hSd : Sd (W.alloc (.cells #[.int .i64 x1, .int .u64 (x2 : Int)] 41)) (.slice (some ⟨W.heap.size, 0, none⟩) 1 1) [(x1, x2)] := by
      refine ⟨_, 1, rfl, by simp, fun _ => ⟨_, 0, rfl, fun j hj => ?_⟩⟩
      have hj0 : j = 0 := by simpa using hj
      subst hj0
      exact ⟨(Blk.new W _ _).cell 0, (Blk.new W _ _).cell 1⟩
    have hoa := ho.alloc (.cells #[.int .i64 x1, .int .u64 (x2 : Int)] 41)
    have hl6 : pre.length + [(x1, x2)].length ≤ 1000000 := by simp; omega
    have hbs : w.heap.size + 1 ≤ (W.alloc (.cells #[.int .i64 x1, .int .u64 (x2 : Int)] 41)).heap.size := by simp; omega
    have HALL := Lib.hid (And.intro hb (And.intro hs (And.intro b1 ho)))
    have HOA := Lib.hid hoa
    have HSD := Lib.hid hSd
    clear hb hs b1 ho hoa hSd hgd
    gi_wp2_with (gi_at_builtin; refine wpListIn_append_dots rfl _ _ 30 rfl (w.heap.size + 1) i0 Tryz.underlying30 hi hy0 hy1 hy2 _ pre rfl HOA.out _ [(x1, x2)] rfl HSD.out hl6 hbs ?_)
    intro v' w3 ho3 hg3 _ hnew
    obtain ⟨hb, hs, b1, ho⟩ := HALL.out
    obtain ⟨ob, hob⟩ : ∃ ob, ob = (Value.slice Av nv cv).ownBlock := ⟨_, rfl⟩
    rw [← hob] at hg3
    have hrow : ∀ k, ob = some k → w.heap.size + 1 ≤ k ∧ ∃ cs, Blk W k 41 cs := fun k e => ⟨(ho.lt k (by rw [← hob]; exact e)).1, ho.blk k (by rw [← hob]; exact e)⟩
    have k1 : Keep (fun i => ob = some i) W w3 := (Keep.of_below ((Below.refl _ _).alloc (Nat.le_refl _) _)).trans (Keep.of_grown hg3 (fun k e => e)) (fun _ h => h) (fun _ _ h => h)
    have hnb : ¬ ob = some w.heap.size := fun e => by have := (hrow _ e).1; omega
    have b3 := b1.kept k1 hnb
    have p3 : w3.cell? ⟨w.heap.size, 0, none⟩ = some (.slice Av nv cv) := by rw [b3.cell]; rfl
    have g3 := b3.frozen 0
    obtain ⟨A', n', c', rfl⟩ := ho3.shape
    have k2 : Keep (fun i => i = w.heap.size ∨ ob = some i) W (w3.setCell ⟨w.heap.size, 0, none⟩ (.slice A' n' c')) := (k1.mono (fun i h => .inr h)).trans (Keep.setCell w3 _ _ (.inl rfl)) (fun _ h => h) (fun _ _ h => h)
    have b4 := b3.set_ 0 (.slice A' n' c')
    have ho4 : OwnD (w3.setCell ⟨w.heap.size, 0, none⟩ (.slice A' n' c')) (w.heap.size + 1) (.slice A' n' c') (pre ++ [(x1, x2)]) := ho3.keep fun k hk => Below.heap_setCell _ _ _ k (by have := (ho3.lt k hk).1; show k ≠ w.heap.size; omega)
    have hobj : ∀ k, (k = w.heap.size ∨ ob = some k) → ∃ t cs, Blk W k t cs := fun k e => by
      rcases e with rfl | e
      · exact ⟨_, _, b1⟩
      · obtain ⟨cs, h⟩ := (hrow k e).2
        exact ⟨_, cs, h⟩
    have HFIN := Lib.hid (show KeepsFrom w1.heap.size W (w3.setCell ⟨w.heap.size, 0, none⟩ (.slice A' n' c')) ∧ KeepsWalks W (w3.setCell ⟨w.heap.size, 0, none⟩ (.slice A' n' c')) ∧ ApI w w.heap.size (w.heap.size + 1) (pre ++ [(x1, x2)]) (w3.setCell ⟨w.heap.size, 0, none⟩ (.slice A' n' c')) from
      ⟨KeepsFrom.of_keep k2 (fun k e o ho => by
          obtain ⟨t, cs, h⟩ := hobj k e
          unfold Blk at h
          rw [h] at ho; cases ho; rfl),
        KeepsWalks.of_keep k2 (fun k e o ho => by
          obtain ⟨t, cs, h⟩ := hobj k e
          unfold Blk at h
          rw [h] at ho; cases ho; rfl),
        Keep.below hb k2 hb.size (fun i e => by
          rcases e with rfl | e
          · exact Nat.le_refl _
          · have := (hrow _ e).1; omega), Nat.le_trans hs k2.size, _, b4, ho4⟩)
    clear hobj ho4 b4 k2 b3 k1 hrow hob hg3 ho3 hb hs b1 ho hnew hnb
    gi_wp2
    exact HFIN.out
  case done =>
    rintro D xs W hD' hxs hI hKd
    obtain ⟨hb, hs, v, b1, ho⟩ := hI
    obtain ⟨Av, nv, cv, rfl⟩ := ho.shape
    have q1 : W.cell? ⟨w.heap.size, 0, none⟩ = some (.slice Av nv cv) := by rw [b1.cell]; rfl
    have HK := Lib.hid hKd
    have HE := Lib.hid (show OwnD (W.putObj D (.deferred none)) w.heap.size (.slice Av nv cv) xs ∧ Below w.heap.size w (W.putObj D (.deferred none)) from ⟨(ho.put_ hKd rfl _).mono (by omega), hb.grown (grown_put W D _) hb.size (fun k e => by injection e with e; omega)⟩)
    clear hb hs b1 ho hKd
    gi_wp2
    refine ⟨by simp, .inl ⟨_, _, rfl, run_takeDeferred HK.out, ?_⟩⟩
    refine ⟨_, results_tmp rfl _ _ _, ?_⟩
    exact ⟨.slice Av nv cv, xs, rfl, hxs, HE.out⟩

theorem collectD_any {gf : Nat} {lb : Array Value} (eg : ∀ args w, (callFunc gf args).run Tryz.prog w = .ok (.enter gf args) w) {S : List Dt → Prop} {N : Nat} (hN : N ≤ 900000) (w : World)
    (hseq : SeqX Fence.wide 7 Tryz.prog gf lb encDt (fun x _ => OkD x) (StM w.heap.size) KeepsWalks S (fun _ => True) N w) :
    Calls Tryz.prog 97 #[.func (.func gf) #[] lb] w fun e w' => ∃ v ss, e = .returned v ∧ S ss ∧ OwnD w' w.heap.size v ss ∧ Below w.heap.size w w' := by
  have HA := Lib.hid (appendSeq_any eg hN w hseq)
  clear hseq
  go_enter Tryz.func97, Tryz.ntmps97
  go_wp2_with fail
  refine HA.out.mono ?_
  rintro e w1 ⟨v, ss, rfl, h1, h2, h3⟩
  have H := Lib.hid (And.intro h1 (And.intro h2 h3))
  obtain ⟨A, n, c, rfl⟩ := h2.shape
  clear h1 h2 h3
  go_wp2
  go_ret
  exact ⟨_, ss, rfl, H.out⟩
theorem keysK_seq (n : Nat) (hn1 : 1 ≤ n) (Bm b nn : Nat) {L : List (Dt × Ky)} (hL : OkL L) (w : World) (hm : w.cell? ⟨Bm, 0, none⟩ = some (.map (some b))) (hown : w.ownsMap Tryz.prog 41 keyR b nn (MD keyD L)) :
    SeqX Fence.wide n Tryz.prog 121 #[.pointer (some ⟨Bm, 0, none⟩)] encDt (fun x _ => OkD x) (StM w.heap.size) KeepsWalks (AllD L) (fun _ => True) L.length w := by
  intro l J Jx W hW hJ hJx hY h0
  have hown' : W.ownsMap Tryz.prog 41 keyR b nn (MD keyD L) := by
    have hbl := hown.lt
    obtain ⟨es, clock, hb, Ft, hs, hD⟩ := hown
    exact ⟨es, clock, (hW.block b hbl).trans hb, Ft, hs, hD⟩
  exact keysK_in n hn1 l Bm b nn hL J Jx W w.heap.size hW.size hJ hY ((hW.cell (World.block_lt_of_cell? w _ hm)).trans hm) hown' h0
theorem keysK_any (mb : Option Nat) (w : World) : Calls Tryz.prog 98 #[.map mb] w fun e w' => e = .returned (.func (.func 121) #[] #[.pointer (some ⟨w.heap.size, 0, none⟩)]) ∧ w' = w.alloc (.cells #[.map mb] 81) := by
  have hmf : ∀ (fn : Fn) (first cap : Array Value) (w : World), (Instr.makeFunc fn first cap).run Tryz.prog w = .ok (.func fn first cap) w := fun _ _ _ _ => rfl
  go_enter Tryz.func98, Tryz.ntmps98
  go_wp2
  go_ret
  exact ⟨rfl, rfl⟩
/-- All keys of a map, gathered. -/
theorem gatherK_any (b nn : Nat) {L : List (Dt × Ky)} (hL : OkL L) (hN : L.length ≤ 900000) (w : World) (hown : w.ownsMap Tryz.prog 41 keyR b nn (MD keyD L)) :
    Calls Tryz.prog 97 #[.func (.func 121) #[] #[.pointer (some ⟨w.heap.size, 0, none⟩)]] (w.alloc (.cells #[.map (some b)] 81)) fun e w' => ∃ v ss, e = .returned v ∧ AllD L ss ∧ OwnD w' (w.heap.size + 1) v ss ∧ Below w.heap.size w w' := by
  have hb0 : Below w.heap.size w (w.alloc (.cells #[.map (some b)] 81)) := (Below.refl _ _).alloc (Nat.le_refl _) _
  refine (collectD_any enter_keysK hN _ (keysK_seq 7 (by omega) w.heap.size b nn hL _ ?_ ?_)).mono ?_
  · exact (Blk.new w _ _).cell 0
  · exact ownsMap_below hown hb0
  · rintro e w' ⟨v, ss, rfl, h1, h2, h3⟩
    rw [show (w.alloc (.cells #[.map (some b)] 81)).heap.size = w.heap.size + 1 by simp] at h2 h3
    exact ⟨v, ss, rfl, h1, h2, hb0.trans (h3.mono (by omega))⟩
theorem keysU_seq (n : Nat) (hn1 : 1 ≤ n) (Bm b nn : Nat) {L : List (Dt × Unit)} (hL : OkL L) (w : World) (hm : w.cell? ⟨Bm, 0, none⟩ = some (.map (some b))) (hown : w.ownsMap Tryz.prog 41 unitElem b nn (MD unD L)) :
    SeqX Fence.wide n Tryz.prog 123 #[.pointer (some ⟨Bm, 0, none⟩)] encDt (fun x _ => OkD x) (StM w.heap.size) KeepsWalks (AllD L) (fun _ => True) L.length w := by
  intro l J Jx W hW hJ hJx hY h0
  have hown' : W.ownsMap Tryz.prog 41 unitElem b nn (MD unD L) := by
    have hbl := hown.lt
    obtain ⟨es, clock, hb, Ft, hs, hD⟩ := hown
    exact ⟨es, clock, (hW.block b hbl).trans hb, Ft, hs, hD⟩
  exact keysU_in n hn1 l Bm b nn hL J Jx W w.heap.size hW.size hJ hY ((hW.cell (World.block_lt_of_cell? w _ hm)).trans hm) hown' h0
theorem keysU_any (mb : Option Nat) (w : World) : Calls Tryz.prog 101 #[.map mb] w fun e w' => e = .returned (.func (.func 123) #[] #[.pointer (some ⟨w.heap.size, 0, none⟩)]) ∧ w' = w.alloc (.cells #[.map mb] 82) := by
  have hmf : ∀ (fn : Fn) (first cap : Array Value) (w : World), (Instr.makeFunc fn first cap).run Tryz.prog w = .ok (.func fn first cap) w := fun _ _ _ _ => rfl
  go_enter Tryz.func101, Tryz.ntmps101
  go_wp2
  go_ret
  exact ⟨rfl, rfl⟩
/-- All keys of a map, gathered. -/
theorem gatherU_any (b nn : Nat) {L : List (Dt × Unit)} (hL : OkL L) (hN : L.length ≤ 900000) (w : World) (hown : w.ownsMap Tryz.prog 41 unitElem b nn (MD unD L)) :
    Calls Tryz.prog 97 #[.func (.func 123) #[] #[.pointer (some ⟨w.heap.size, 0, none⟩)]] (w.alloc (.cells #[.map (some b)] 82)) fun e w' => ∃ v ss, e = .returned v ∧ AllD L ss ∧ OwnD w' (w.heap.size + 1) v ss ∧ Below w.heap.size w w' := by
  have hb0 : Below w.heap.size w (w.alloc (.cells #[.map (some b)] 82)) := (Below.refl _ _).alloc (Nat.le_refl _) _
  refine (collectD_any enter_keysU hN _ (keysU_seq 7 (by omega) w.heap.size b nn hL _ ?_ ?_)).mono ?_
  · exact (Blk.new w _ _).cell 0
  · exact ownsMap_below hown hb0
  · rintro e w' ⟨v, ss, rfl, h1, h2, h3⟩
    rw [show (w.alloc (.cells #[.map (some b)] 82)).heap.size = w.heap.size + 1 by simp] at h2 h3
    exact ⟨v, ss, rfl, h1, h2, hb0.trans (h3.mono (by omega))⟩
end Go.Proofs.YtldfaaahmpncbaaGreat

namespace Go.Proofs.YtldfaaahmpncbaaGreat
open Go.RowKit
open CtxM
set_option linter.unusedVariables false
set_option linter.unusedSimpArgs false
set_option maxRecDepth 20000

theorem grownOfBelow {w w' : World} (h : Below w.heap.size w w') (row : Option Nat) : w.grownBy w' row := ⟨h.os, h.tape, h.output, h.size, fun i hi _ => h.block i hi⟩
/-- The first place where the test says yes. -/
def ixI (q : Dt → Bool) (L : List Dt) : Int := if (∀ d ∈ L, q d = false) then -1 else (L.findIdx q : Int)
theorem ix_none {q : Dt → Bool} {L : List Dt} (h : ∀ j (hj : j < L.length), q L[j] = false) : ixI q L = -1 := by
  unfold ixI
  rw [if_pos]
  intro d hd
  obtain ⟨j, hj, rfl⟩ := List.getElem_of_mem hd
  exact h j hj
theorem ix_some {q : Dt → Bool} {L : List Dt} {i : Nat} (hi : i < L.length) (h : ∀ j (hj : j < i), q (L[j]'(by omega)) = false) (hq : q L[i] = true) : ixI q L = (i : Int) := by
  unfold ixI
  rw [if_neg (fun hh => by have := hh _ (List.getElem_mem hi); rw [hq] at this; cases this)]
  have : L.findIdx q = i := by
    rw [List.findIdx_eq hi]
    exact ⟨hq, fun j hj => h j hj⟩
  rw [this]
section
variable {gf : Nat} {cv : Value} {q : Dt → Bool} {C : World → Prop}
set_option maxHeartbeats 1000000 in
theorem indexFunc_any (eg : ∀ args w, (callFunc gf args).run Tryz.prog w = .ok (.enter gf args) w) (v : Value) (L : List Dt) (w : World) (hs : Sd w v L) (hL : L.length ≤ 900000) (h0 : C w) (hC : ∀ X X', C X → Below X.heap.size X X' → C X')
    (hdel : ∀ d ∈ L, ∀ X, C X → Calls Tryz.prog gf #[dval d, cv] X fun e X' => e = .returned (.bool (q d)) ∧ Below X.heap.size X X') :
    Calls Tryz.prog 119 #[v, .func (.func gf) #[] #[cv]] w fun e w' => e = .returned (.int .i64 (ixI q L)) ∧ Below w.heap.size w w' ∧ C w' := by
  obtain ⟨A, n, c, rfl⟩ := hs.shape
  obtain rfl := hs.len
  obtain ⟨R, hR⟩ : ∃ R, R = ixI q L := ⟨_, rfl⟩
  rw [← hR]
  have HR := Lib.hid hR
  have HD := Lib.hid hdel
  have H0 := Lib.hid h0
  clear hR hdel h0
  go_enter Tryz.func119, Tryz.ntmps119
  go_wp2_with fail
  go_loopw [8] (fun z wr => ∃ k : Nat, z = .int .i64 (k : Int) ∧ k ≤ L.length ∧ (∀ j (hj : j < L.length), j < k → q L[j] = false) ∧ Below w.heap.size w wr ∧ C wr) (fun z _ => L.length - (intOf z).toNat)
  case atStart => exact ⟨0, rfl, Nat.zero_le _, fun j hj h => absurd h (by omega), Below.refl _ _, H0.out⟩
  case round =>
    obtain ⟨k, rfl, hk, hall, hb, hc⟩ := hrel
    have HALL := Lib.hid hall
    have HC := Lib.hid hc
    clear hall hc
    by_cases hlt : k < L.length
    · have hlti : (k : Int) < (L.length : Int) := by omega
      obtain ⟨d, hd⟩ : ∃ d, L[k] = d := ⟨_, rfl⟩
      obtain ⟨b, o, e0, k0, k1⟩ := (hs.below hb).at_ k hlt d hd
      subst e0
      have hdc : Calls Tryz.prog gf #[.agg #[.int .i64 d.1, .int .u64 (d.2 : Int)], cv] wr fun e X' => e = .returned (.bool (q d)) ∧ Below wr.heap.size wr X' := HD.out d (by rw [← hd]; exact List.getElem_mem hlt) wr HC.out
      have HDC := Lib.hid hdc
      have HX := Lib.hid hd
      have HLT := Lib.hid hlt
      clear hdc hd
      go_wp2_with fail
      refine HDC.out.mono ?_
      rintro e w2 ⟨rfl, hb2⟩
      have hbw := hb.trans (hb2.mono hb.size)
      have HC2 := Lib.hid (hC _ _ HC.out hb2)
      cases hq : q d
      · go_wp2
        refine ⟨⟨k + 1, by go_num, HLT.out, fun j h1 h2 => ?_, hbw, HC2.out⟩, by have := HLT.out; simp [intOf]; omega⟩
        rcases Nat.lt_or_ge j k with h | h
        · exact HALL.out j h1 h
        · obtain rfl : j = k := by omega
          rw [HX.out]; exact hq
      · go_wp2
        go_ret
        refine ⟨?_, hbw, HC2.out⟩
        rw [HR.out, ix_some HLT.out (fun j hj => HALL.out j (by have := HLT.out; omega) hj) (by rw [HX.out]; exact hq)]
        rfl
    · obtain rfl : k = L.length := by omega
      have hlti : ¬ ((L.length : Int) < (L.length : Int)) := by omega
      go_wp2
      go_ret
      refine ⟨?_, hb, HC.out⟩
      rw [HR.out, ix_none (fun j hj => HALL.out j hj hj)]
      rfl

theorem ix_cases (q : Dt → Bool) (L : List Dt) : (ixI q L = -1 ∧ ∀ d ∈ L, q d = false) ∨ ∃ i : Nat, ixI q L = (i : Int) ∧ ∃ h : i < L.length, q L[i] = true ∧ ∀ j (hj : j < i), q (L[j]'(by omega)) = false := by
  by_cases h : ∀ d ∈ L, q d = false
  · exact .inl ⟨by unfold ixI; rw [if_pos h], h⟩
  · right
    have hlt : L.findIdx q < L.length := by
      rw [List.findIdx_lt_length]
      refine Classical.byContradiction fun hn => h fun d hd => ?_
      cases hq : q d
      · rfl
      · exact absurd ⟨d, hd, hq⟩ hn
    exact ⟨L.findIdx q, by unfold ixI; rw [if_neg h], hlt, List.findIdx_getElem, fun j hj => by simpa using List.not_of_lt_findIdx hj⟩
/-- Those that stay. -/
def stay (q : Dt → Bool) (L : List Dt) : List Dt := L.filter fun d => !q d
theorem stay_take {q : Dt → Bool} {L : List Dt} {j : Nat} (hj : j < L.length) : stay q (L.take (j + 1)) = if q L[j] = true then stay q (L.take j) else stay q (L.take j) ++ [L[j]] := by
  unfold stay
  rw [List.take_succ_eq_append_getElem hj, List.filter_append]
  cases hq : q L[j] <;> simp [hq]
theorem stay_all {q : Dt → Bool} {L : List Dt} (h : ∀ d ∈ L, q d = false) : stay q L = L := by
  unfold stay
  exact List.filter_eq_self.2 fun d hd => by rw [h d hd]; rfl
theorem stay_first {q : Dt → Bool} {L : List Dt} {i : Nat} (hi : i < L.length) (hq : q L[i] = true) (h : ∀ j (hj : j < i), q (L[j]'(by omega)) = false) : stay q (L.take (i + 1)) = L.take i := by
  rw [stay_take hi, if_pos hq, stay_all]
  intro d hd
  obtain ⟨j, hj, rfl⟩ := List.getElem_of_mem hd
  rw [List.length_take] at hj
  rw [List.getElem_take]
  exact h j (by omega)
set_option maxHeartbeats 2000000 in
theorem deleteFunc_any (eg : ∀ args w, (callFunc gf args).run Tryz.prog w = .ok (.enter gf args) w) (v : Value) (L : List Dt) (base : Nat) (w : World) (ho : OwnD w base v L) (hL : L.length ≤ 900000) (h0 : C w) (hC : ∀ X X', C X → Below X.heap.size X X' → C X')
    (hC2 : ∀ X X', C X → X.grownBy X' v.ownBlock → C X')
    (hdel : ∀ d ∈ L, ∀ X, C X → Calls Tryz.prog gf #[dval d, cv] X fun e X' => e = .returned (.bool (q d)) ∧ Below X.heap.size X X') :
    Calls Tryz.prog 96 #[v, .func (.func gf) #[] #[cv]] w fun e w' => ∃ v', e = .returned v' ∧ OwnD w' base v' (stay q L) ∧ (v'.ownBlock = v.ownBlock) ∧ w.grownBy w' v.ownBlock ∧ C w' := by
  have HI := Lib.hid (indexFunc_any eg v L w ho.sd hL h0 hC hdel)
  obtain ⟨A, n, c, rfl⟩ := ho.shape
  obtain rfl := ho.sd.len
  have HD := Lib.hid hdel
  have HO := Lib.hid ho
  clear hdel h0
  rcases ix_cases q L with ⟨hi, hall⟩ | ⟨i, hi, hlt, hq, hbef⟩
  · rw [hi] at HI
    have HALL := Lib.hid hall
    clear hall hi
    go_enter Tryz.func96, Tryz.ntmps96
    go_wp2_with fail
    refine HI.out.mono ?_
    rintro e w1 ⟨rfl, hb, hc⟩
    have HX := Lib.hid (show OwnD w1 base (.slice A L.length c) (stay q L) ∧ w.grownBy w1 (Value.slice A L.length c).ownBlock ∧ C w1 from ⟨by rw [stay_all HALL.out]; exact ho.below hb, grownOfBelow hb _, hc⟩)
    clear hb hc ho
    go_wp2
    go_ret
    exact ⟨_, rfl, HX.out.1, rfl, HX.out.2⟩
  · obtain ⟨g, rfl⟩ : ∃ g, A = some ⟨g, 0, none⟩ := by
      rcases ho.2 with ⟨h0, h1⟩ | ⟨g, cap, cur, hv, _⟩
      · omega
      · injection hv with e1 _ _
        exact ⟨g, e1⟩
    rw [hi] at HI
    have HB := Lib.hid (And.intro hlt (stay_first hlt hq hbef))
    have hbase : base ≤ g ∧ g < w.heap.size := ho.lt g rfl
    have hob : (Value.slice (some ⟨g, 0, none⟩) L.length c).ownBlock = some g := rfl
    rw [hob] at hC2
    have HC := Lib.hid hC
    have HC2 := Lib.hid hC2
    have hil : (i : Int) < (L.length : Int) := by omega
    have hine : ((i : Int) == -1) = false := by rw [beq_eq_false_iff_ne]; omega
    have hwi : IntKind.i64.wrap ((i : Int) + 1) = ((i + 1 : Nat) : Int) := by rw [IntKind.wrap_i64]; omega
    clear hi hq hbef ho hC hC2
    go_enter Tryz.func96, Tryz.ntmps96
    go_wp2_with fail
    refine HI.out.mono ?_
    rintro e w1 ⟨rfl, hb, hc⟩
    have HC1 := Lib.hid hc
    have hbw := Lib.hid hb
    clear hb hc HI
    go_wp2_with fail
    go_loopw [5, 6] (fun z5 z6 wq => ∃ (j : Nat), z6 = .int .i64 (j : Int) ∧ j ≤ L.length ∧ z5 = .int .i64 ((stay q (L.take j)).length : Int) ∧ (stay q (L.take j)).length < j ∧ OwnD wq base (.slice (some ⟨g, 0, none⟩) L.length c) (stay q (L.take j) ++ L.drop (stay q (L.take j)).length) ∧ w.grownBy wq (some g) ∧ C wq) (fun _ z6 _ => L.length - (intOf z6).toNat)
    case atStart =>
      have e := HB.out.2
      have hlt := HB.out.1
      have e2 : (L.take i).length = i := by rw [List.length_take]; omega
      refine ⟨i + 1, rfl, hlt, by rw [e, e2], by rw [e, e2]; omega, ?_, grownOfBelow hbw.out _, HC1.out⟩
      rw [e, e2, List.take_append_drop]
      exact HO.out.below hbw.out
    case round =>
      clear hwi hine hil
      obtain ⟨j, rfl, hj, rfl, hPl, ho, hg, hc⟩ := hrel
      obtain ⟨P, hP⟩ : ∃ P, P = stay q (L.take j) := ⟨_, rfl⟩
      rw [← hP] at hPl ho ⊢
      have HP := Lib.hid hP
      have HQ := Lib.hid ho
      have HG := Lib.hid hg
      have HCC := Lib.hid hc
      have hPL : (P ++ L.drop P.length).length = L.length := by rw [List.length_append, List.length_drop]; omega
      clear hP hg hc
      by_cases hlt2 : j < L.length
      · have hji : (j : Int) < (L.length : Int) := by omega
        obtain ⟨u, hu⟩ : ∃ u, L[j] = u := ⟨_, rfl⟩
        have eu : (P ++ L.drop P.length)[j]'(by omega) = u := by
          rw [List.getElem_append_right (by omega), List.getElem_drop, ← hu]; congr 1; omega
        have hsd2 := ho.sd
        rw [show L.length = (P ++ L.drop P.length).length from hPL.symm] at hsd2
        obtain ⟨b, o, e0, k0, k1⟩ := hsd2.at_ j (by omega) u eu
        injection e0 with e0
        injection e0 with e1 e2
        subst e1; subst e2
        rw [Nat.zero_add] at k0 k1
        have HS := Lib.hid (stay_take (q := q) hlt2)
        rw [hu] at HS
        have HMEM := Lib.hid (show u ∈ L from by rw [← hu]; exact List.getElem_mem hlt2)
        have hcall : Calls Tryz.prog gf #[.agg #[.int .i64 u.1, .int .u64 (u.2 : Int)], cv] (wr.alloc (.cells #[.int .i64 u.1, .int .u64 (u.2 : Int)] 41)) fun e X' => e = .returned (.bool (q u)) ∧ Below (wr.alloc (.cells #[.int .i64 u.1, .int .u64 (u.2 : Int)] 41)).heap.size (wr.alloc (.cells #[.int .i64 u.1, .int .u64 (u.2 : Int)] 41)) X' :=
          HD.out u HMEM.out _ (HC.out _ _ HCC.out ((Below.refl _ _).alloc (Nat.le_refl _) _))
        have HCALL := Lib.hid hcall
        have HLT2 := Lib.hid hlt2
        have HJ := Lib.hid hj
        have hbl : Blk (wr.alloc (.cells #[.int .i64 u.1, .int .u64 (u.2 : Int)] 41)) wr.heap.size 41 #[.int .i64 u.1, .int .u64 (u.2 : Int)] := Blk.new _ _ _
        have HBL := Lib.hid hbl
        clear hu eu hsd2 ho hcall hbl
        go_wp2_with fail
        refine HCALL.out.mono ?_
        rintro e w2 ⟨rfl, hb2⟩
        have hb3 : Below wr.heap.size wr w2 := ((Below.refl wr.heap.size wr).alloc (Nat.le_refl _) (.cells #[.int .i64 u.1, .int .u64 (u.2 : Int)] 41)).trans (hb2.mono (by simp))
        have ho2 := HQ.out.below hb3
        have hbl2 := HBL.out.below hb2 HBL.out.lt
        have HG2 := Lib.hid (grown_then HG.out (grownOfBelow hb3 (some g)))
        have HCC2 := Lib.hid (HC.out _ _ HCC.out hb3)
        clear HCALL HBL hb2
        cases hq : q u
        · have hth := ho2.there P.length (by omega)
          obtain ⟨z, hz⟩ : ∃ z, (P ++ L.drop P.length)[P.length]'(by omega) = z := ⟨_, rfl⟩
          have hsd3 := ho2.sd
          rw [show L.length = (P ++ L.drop P.length).length from hPL.symm] at hsd3
          obtain ⟨b, o, e0, k4, k5⟩ := hsd3.at_ P.length (by omega) z hz
          injection e0 with e0
          injection e0 with e1 e2
          subst e1; subst e2
          rw [Nat.zero_add] at k4 k5
          have f4 : w2.frozen? ⟨g, P.length * 2, none⟩ = false := (hth 0 (by omega)).2
          have f5 : w2.frozen? ⟨g, P.length * 2 + 1, none⟩ = false := (hth 1 (by omega)).2
          have v0 : w2.cell? ⟨wr.heap.size, 0, none⟩ = some (.int .i64 u.1) := by rw [hbl2.cell]; rfl
          have v1 : w2.cell? ⟨wr.heap.size, 1, none⟩ = some (.int .u64 (u.2 : Int)) := by rw [hbl2.cell]; rfl
          have HO2 := Lib.hid ho2
          clear hth hsd3 hz ho2 hbl2
          have hPi : (P.length : Int) < (L.length : Int) := by omega
          go_wp2
          have hset := HO2.out.set P.length (by omega) u
          have e1 : (P ++ L.drop P.length).set P.length u = (P ++ [u]) ++ L.drop (P ++ [u]).length := by
            rw [List.set_append_right _ _ (Nat.le_refl _), Nat.sub_self, List.drop_eq_getElem_cons (show P.length < L.length by omega), List.set_cons_zero, List.append_assoc, List.length_append]
            rfl
          rw [e1] at hset
          have hs := HS.out
          rw [hq, if_neg (by simp), ← HP.out] at hs
          refine ⟨⟨j + 1, by go_num, HLT2.out, by rw [hs, List.length_append]; go_num, by rw [hs, List.length_append]; simp; omega, by rw [hs]; exact hset, ?_, ?_⟩, by have := HLT2.out; simp [intOf]; omega⟩
          · exact grown_then HG2.out (grown_then (grown_setCell _ g _ _) (grown_setCell _ g _ _))
          · exact HC2.out _ _ HCC2.out (grown_then (grown_setCell _ g _ _) (grown_setCell _ g _ _))
        · have HO2 := Lib.hid ho2
          clear ho2 hbl2
          go_wp2
          have hs := HS.out
          rw [hq, if_pos rfl, ← HP.out] at hs
          exact ⟨⟨j + 1, by go_num, HLT2.out, by rw [hs], by rw [hs]; omega, by rw [hs]; exact HO2.out, HG2.out, HCC2.out⟩, by have := HLT2.out; simp [intOf]; omega⟩
      · obtain rfl : j = L.length := by omega
        have hn0 : 0 < L.length - P.length := by omega
        have hth := ho.thereAll
        rw [hPL] at hth
        have hcl : ∀ ty, (Builtin.clear_ #[30] ty #[.slice (some ⟨g, P.length * 2, none⟩) (L.length - P.length) (c - P.length)]).run Tryz.prog wr = .ok (.tuple #[]) (wr.setCells g (P.length * 2) (zds (L.length - P.length))) :=
          fun ty => run_clear_dots wr _ _ ty Tryz.underlying30 Tryz.zeroValue41 g (P.length * 2) _ _ hn0 (fun j hj => (hth _ (by omega)).1) (fun j hj => (hth _ (by omega)).2)
        have hcc : L.length ≤ c := by obtain ⟨A9, c9, e9, hc9, _⟩ := ho.sd; injection e9 with e1 e2 e3; omega
        have hPi : ¬ ((L.length : Int) < (P.length : Int)) := by omega
        have hPc : ¬ ((c : Int) < (P.length : Int)) := by omega
        have hcp : ¬ c = P.length := by omega
        clear hth ho
        go_wp2
        go_ret
        have hz := zds_set HQ.out P.length (L.length - P.length) (by omega)
        rw [List.take_left' rfl] at hz
        have hPe := HP.out
        rw [List.take_length] at hPe
        rw [hPe] at hz ⊢
        exact ⟨_, rfl, hz, rfl, grown_then HG.out (grown_setCells g _ _ _), HC2.out _ _ HCC.out (grown_setCells g _ _ _)⟩
end
end Go.Proofs.YtldfaaahmpncbaaGreat

namespace Go.Proofs.YtldfaaahmpncbaaGreat
open Go.RowKit Go.Sort
open CtxM
set_option linter.unusedVariables false
set_option linter.unusedSimpArgs false
set_option maxRecDepth 20000

theorem ocmp_dot (blk off size : Nat) (w : World) : CmpLays Tryz.prog 92 #[] dv 2 cD blk off size w := by
  intro m os dk _ x y
  exact ointurn_any x y _

set_option maxHeartbeats 1000000 in
theorem osort_any (v : Value) (L : List Dt) (base : Nat) (w : World) (ho : OwnD w base v L) (hl : L.length ≤ 100000) :
    Calls Tryz.prog 100 #[v, .func (.func 92) #[] #[]] w fun e w' => e = .returned (.tuple #[]) ∧ ∃ M, OwnD w' base v M ∧ Ord M ∧ M.Perm L ∧ M.length = L.length ∧ (∀ d, d ∈ M ↔ d ∈ L) ∧ w.grownBy w' v.ownBlock := by
  have ho2 := ho
  rcases ho.2 with ⟨rfl, h0⟩ | ⟨g, cap, cur, rfl, hg, hh, _⟩
  · obtain rfl : L = [] := List.eq_nil_of_length_eq_zero h0
    refine (AnyF.slices_SortFunc_none { Tryz.sortD with } none 0 _ w).mono ?_
    rintro e w' ⟨rfl, rfl⟩
    exact ⟨rfl, [], OwnD.nil, List.Pairwise.nil, List.Perm.refl _, rfl, fun d => Iff.rfl, World.grownBy.refl _ _⟩
  · have hlt := ho.lt g rfl
    have hH := (ho.put L.toArray (by simp) 0 #[]).1
    have eg : ∀ args w, (callFunc 92 args).run Tryz.prog w = .ok (.enter 92 args) w := enters_of Tryz.func92 (by kernel_rfl) rfl
    have hcon := AnyQ.slices_SortFunc Tryz.sortD 2 Tryz.isAgg41 Tryz.sizeOf41 dv (fun _ => rfl) (fun x u hu => by simp [dv] at hu; rcases hu with rfl | rfl <;> rfl) cD swo_dot 92 #[] g 0 cap L.toArray w eg (ocmp_dot g 0 _ w) hH hlt.2 (by simp; omega)
    refine hcon.mono ?_
    rintro e w' ⟨rfl, d', n, os, hp, hs, rfl⟩
    have hd : d'.size = L.length := by simpa using hp.1
    obtain ⟨_, h2, h3⟩ := ho.put d' hd n os
    refine ⟨rfl, d'.toList, h2, ?_, by
      have h5 := hp.2.2
      have e1 : d'.extract 0 L.toArray.size = d' := by rw [List.size_toArray, ← hd]; simp
      have e2 : L.toArray.extract 0 L.toArray.size = L.toArray := by simp
      rw [e1, e2] at h5
      simpa using h5, (Array.length_toList (xs := d')).trans hd, fun d => ?_, h3⟩
    · refine List.pairwise_iff_getElem.2 fun i j hi hj hij => ?_
      have hi' : i < d'.size := by simpa using hi
      have hj' : j < d'.size := by simpa using hj
      have := hs i j (Nat.zero_le _) hij (by rw [List.size_toArray, ← hd]; exact hj')
      rw [getElem!_pos d' i hi', getElem!_pos d' j hj'] at this
      simp only [ltOf, decide_eq_false_iff_not, cD_lt] at this
      simpa using this
    · have h5 := hp.2.2.mem_iff (a := d)
      have e1 : d'.extract 0 L.toArray.size = d' := by rw [List.size_toArray, ← hd]; simp
      have e2 : L.toArray.extract 0 L.toArray.size = L.toArray := by simp
      rw [e1, e2] at h5
      simpa using h5

theorem ord_nodup {M : List Dt} (h : Ord M) (hn : M.Nodup) : M.Pairwise Lt := by
  refine List.pairwise_iff_getElem.2 fun i j hi hj hij => ?_
  have h1 := ord_lt h hij hj
  have h2 : M[i] ≠ M[j] := fun e => by
    have := (List.pairwise_iff_getElem.1 hn) i j hi hj hij
    exact this e
  rcases Lt.tri M[i] M[j] with a | a | a
  · exact a
  · exact absurd a h2
  · exact absurd a h1
/-- The dots of a map that pass a test, rising. -/
structure Pick {α : Type} (L : List (Dt × α)) (p : Dt → Bool) (M : List Dt) : Prop where
  rise : M.Pairwise Lt
  mem : ∀ d, d ∈ M ↔ (d ∈ L.map Prod.fst ∧ p d = true)
theorem rise_uniq : ∀ {A B : List Dt}, A.Pairwise Lt → B.Pairwise Lt → (∀ d, d ∈ A ↔ d ∈ B) → A = B
  | [], [], _, _, _ => rfl
  | [], b :: B, _, _, h => absurd ((h b).2 (by simp)) (by simp)
  | a :: A, [], _, _, h => absurd ((h a).1 (by simp)) (by simp)
  | a :: A, b :: B, hA, hB, h => by
    have hA' := List.pairwise_cons.1 hA
    have hB' := List.pairwise_cons.1 hB
    have e : a = b := by
      rcases List.mem_cons.1 ((h a).1 (by simp)) with e | e
      · exact e
      · rcases List.mem_cons.1 ((h b).2 (by simp)) with e2 | e2
        · exact e2.symm
        · exact absurd ((hA'.1 b e2).trans (hB'.1 a e)) (Lt.irrefl a)
    subst e
    congr 1
    refine rise_uniq hA'.2 hB'.2 fun d => ⟨fun hd => ?_, fun hd => ?_⟩
    · rcases List.mem_cons.1 ((h d).1 (List.mem_cons_of_mem _ hd)) with e | e
      · subst e; exact absurd (hA'.1 d hd) (Lt.irrefl d)
      · exact e
    · rcases List.mem_cons.1 ((h d).2 (List.mem_cons_of_mem _ hd)) with e | e
      · subst e; exact absurd (hB'.1 d hd) (Lt.irrefl d)
      · exact e
theorem Pick.uniq {α : Type} {L : List (Dt × α)} {p : Dt → Bool} {M N : List Dt} (h : Pick L p M) (k : Pick L p N) : M = N := rise_uniq h.rise k.rise fun d => by rw [h.mem, k.mem]

theorem Blk.grownP {w w' : World} {g : Nat} {t : TypeId} {cs : Array Value} {row : Option Nat} (h : Blk w g t cs) (hb : w.grownBy w' row) (hg : some g ≠ row) : Blk w' g t cs := (hb.block g h.lt hg).trans h
theorem enter_pickK : ∀ args w, (callFunc 99 args).run Tryz.prog w = .ok (.enter 99 args) w := enters_of Tryz.func99 (by kernel_rfl) rfl
/-- The closure: not what is asked for. -/
theorem pickK1_any {gi : Nat} {lbi : Array Value} (eg : ∀ args w, (callFunc gi args).run Tryz.prog w = .ok (.enter gi args) w) (bx : Nat) (p : Bool) (d : Dt) (X : World) (hbx : Blk X bx 53 #[.func (.func gi) #[] lbi])
    (hin : Calls Tryz.prog gi (#[dval d] ++ lbi) (X.alloc (.cells #[.int .i64 d.1, .int .u64 (d.2 : Int)] 41)) fun e X' => e = .returned (.bool p) ∧ Below (X.alloc (.cells #[.int .i64 d.1, .int .u64 (d.2 : Int)] 41)).heap.size (X.alloc (.cells #[.int .i64 d.1, .int .u64 (d.2 : Int)] 41)) X') :
    Calls Tryz.prog 99 #[dval d, .pointer (some ⟨bx, 0, none⟩)] X fun e X' => e = .returned (.bool (!p)) ∧ Below X.heap.size X X' := by
  have q : (X.alloc (.cells #[.int .i64 d.1, .int .u64 (d.2 : Int)] 41)).cell? ⟨bx, 0, none⟩ = some (.func (.func gi) #[] lbi) := by rw [(hbx.alloc _).cell]; rfl
  have HIN := Lib.hid hin
  clear hin
  show Calls Tryz.prog 99 #[.agg #[.int .i64 d.1, .int .u64 (d.2 : Int)], .pointer (some ⟨bx, 0, none⟩)] X _
  go_enter Tryz.func99, Tryz.ntmps99
  go_wp2_with fail
  refine HIN.out.mono ?_
  rintro e X' ⟨rfl, hb⟩
  go_wp2
  go_ret
  exact ⟨rfl, ((Below.refl X.heap.size X).alloc (Nat.le_refl _) (.cells #[.int .i64 d.1, .int .u64 (d.2 : Int)] 41)).trans (hb.mono (by simp))⟩
set_option maxHeartbeats 1000000 in
theorem pickK_any {gi : Nat} {lbi : Array Value} {p : Dt → Bool} {C : World → Prop} (eg : ∀ args w, (callFunc gi args).run Tryz.prog w = .ok (.enter gi args) w) (b nn : Nat) {L : List (Dt × Ky)} (hL : OkL L) (hN : L.length ≤ 100000) (w : World)
    (hown : w.ownsMap Tryz.prog 41 keyR b nn (MD keyD L)) (h0 : C w) (hC : ∀ X, C X ↔ Below w.heap.size w X)
    (hin : ∀ d ∈ L.map Prod.fst, ∀ X, C X → Calls Tryz.prog gi (#[dval d] ++ lbi) X fun e X' => e = .returned (.bool (p d)) ∧ Below X.heap.size X X') :
    Calls Tryz.prog 66 #[.map (some b), .func (.func gi) #[] lbi] w fun e w' => ∃ v M, e = .returned v ∧ Pick L p M ∧ OwnD w' w.heap.size v M ∧ Below w.heap.size w w' := by
  have hmf : ∀ (fn : Fn) (first cap : Array Value) (w : World), (Instr.makeFunc fn first cap).run Tryz.prog w = .ok (.func fn first cap) w := fun _ _ _ _ => rfl
  have hb0 : Below w.heap.size w (w.alloc (.cells #[.func (.func gi) #[] lbi] 53)) := (Below.refl _ _).alloc (Nat.le_refl _) _
  have hbx := Blk.new w 53 #[.func (.func gi) #[] lbi]
  have hw1 := ownsMap_below hown hb0
  have HIN := Lib.hid hin
  have HC := Lib.hid hC
  clear hin hC
  go_enter Tryz.func66, Tryz.ntmps66
  go_upto_region 1 with fail
  change Code.wp _ _ _ _ (w.alloc (.cells #[.func (.func gi) #[] lbi] 53))
  generalize w.alloc (.cells #[.func (.func gi) #[] lbi] 53) = w1 at hb0 hbx hw1 ⊢
  go_wp2_with fail
  refine (keysK_any (some b) w1).mono ?_
  rintro e w2 ⟨rfl, rfl⟩
  go_wp2_with fail
  refine (gatherK_any b nn hL (by omega) w1 hw1).mono ?_
  rintro e w3 ⟨v3, ss, rfl, hall, ho3, hb3⟩
  have hbw3 := hb0.trans (hb3.mono hb0.size)
  have hbx3 := hbx.below hb3 hbx.lt
  have hss : ss.length ≤ 900000 := by
    have : ss.length ≤ (L.map Prod.fst).length := by
      have hp : ss.Perm (L.map Prod.fst) := (List.perm_ext_iff_of_nodup hall.1 (by rw [List.Nodup, List.pairwise_map]; exact hL.1)).2 hall.2
      exact Nat.le_of_eq hp.length_eq
    rw [List.length_map] at this
    omega
  obtain ⟨A3, n3, c3, rfl⟩ := ho3.shape
  have hz : w.heap.size < w1.heap.size := hbx.lt
  have HD := Lib.hid (deleteFunc_any (gf := 99) (cv := .pointer (some ⟨w.heap.size, 0, none⟩)) (q := fun d => !p d) (C := fun X => Below w.heap.size w X ∧ Blk X w.heap.size 53 #[.func (.func gi) #[] lbi]) enter_pickK _ ss (w1.heap.size + 1) w3 ho3 hss ⟨hbw3, hbx3⟩
    (fun X X' h hb => ⟨h.1.trans (hb.mono h.1.size), h.2.below hb h.2.lt⟩)
    (fun X X' h hg => by
      have hlt := fun k e => (ho3.lt k e).1
      exact ⟨h.1.grown hg h.1.size (fun k e => by have := hlt k e; omega), h.2.grownP hg (fun e => by have := hlt _ e.symm; omega)⟩)
    (fun d hd X h => pickK1_any eg w.heap.size (p d) d X h.2 (HIN.out d ((hall.2 d).1 hd) _ ((HC.out _).2 (h.1.alloc h.1.size _)))))
  clear hw1 hbx hb0 ho3 hb3 hbx3
  go_wp2_with fail
  refine HD.out.mono ?_
  rintro e w4 ⟨v4, rfl, ho4, hob, hg4, hc4, _⟩
  clear HD
  obtain ⟨A4, n4, c4, rfl⟩ := ho4.shape
  have hsl : (stay (fun d => !p d) ss).length ≤ 100000 := by
    have h1 : (stay (fun d => !p d) ss).length ≤ ss.length := List.length_filter_le _ _
    have hp : ss.Perm (L.map Prod.fst) := (List.perm_ext_iff_of_nodup hall.1 (by rw [List.Nodup, List.pairwise_map]; exact hL.1)).2 hall.2
    have := hp.length_eq
    rw [List.length_map] at this
    omega
  have hlt4 := fun k e => (ho4.lt k e).1
  go_wp2_with fail
  refine (osort_any _ _ (w1.heap.size + 1) w4 ho4 hsl).mono ?_
  rintro e w5 ⟨rfl, M, ho5, hord, hperm, _, hmem, hg5⟩
  have hbw5 : Below w.heap.size w w5 := hc4.grown hg5 hc4.size (fun k e => by have := hlt4 k e; omega)
  have HP := Lib.hid (show Pick L p M from ⟨ord_nodup hord (hperm.nodup_iff.2 ((hall.1).filter _)), fun d => by
    rw [hmem]
    unfold stay
    rw [List.mem_filter, hall.2]
    simp⟩)
  have HO := Lib.hid (And.intro (ho5.mono (show w.heap.size ≤ w1.heap.size + 1 by omega)) hbw5)
  clear ho5 ho4 hg5 hg4 hmem hperm hord hall
  go_wp2
  go_ret
  exact ⟨_, M, rfl, HP.out, HO.out⟩
theorem enter_pickU : ∀ args w, (callFunc 102 args).run Tryz.prog w = .ok (.enter 102 args) w := enters_of Tryz.func102 (by kernel_rfl) rfl
/-- The closure: not what is asked for. -/
theorem pickU1_any {gi : Nat} {lbi : Array Value} (eg : ∀ args w, (callFunc gi args).run Tryz.prog w = .ok (.enter gi args) w) (bx : Nat) (p : Bool) (d : Dt) (X : World) (hbx : Blk X bx 53 #[.func (.func gi) #[] lbi])
    (hin : Calls Tryz.prog gi (#[dval d] ++ lbi) (X.alloc (.cells #[.int .i64 d.1, .int .u64 (d.2 : Int)] 41)) fun e X' => e = .returned (.bool p) ∧ Below (X.alloc (.cells #[.int .i64 d.1, .int .u64 (d.2 : Int)] 41)).heap.size (X.alloc (.cells #[.int .i64 d.1, .int .u64 (d.2 : Int)] 41)) X') :
    Calls Tryz.prog 102 #[dval d, .pointer (some ⟨bx, 0, none⟩)] X fun e X' => e = .returned (.bool (!p)) ∧ Below X.heap.size X X' := by
  have q : (X.alloc (.cells #[.int .i64 d.1, .int .u64 (d.2 : Int)] 41)).cell? ⟨bx, 0, none⟩ = some (.func (.func gi) #[] lbi) := by rw [(hbx.alloc _).cell]; rfl
  have HIN := Lib.hid hin
  clear hin
  show Calls Tryz.prog 102 #[.agg #[.int .i64 d.1, .int .u64 (d.2 : Int)], .pointer (some ⟨bx, 0, none⟩)] X _
  go_enter Tryz.func102, Tryz.ntmps102
  go_wp2_with fail
  refine HIN.out.mono ?_
  rintro e X' ⟨rfl, hb⟩
  go_wp2
  go_ret
  exact ⟨rfl, ((Below.refl X.heap.size X).alloc (Nat.le_refl _) (.cells #[.int .i64 d.1, .int .u64 (d.2 : Int)] 41)).trans (hb.mono (by simp))⟩
set_option maxHeartbeats 1000000 in
theorem pickU_any {gi : Nat} {lbi : Array Value} {p : Dt → Bool} {C : World → Prop} (eg : ∀ args w, (callFunc gi args).run Tryz.prog w = .ok (.enter gi args) w) (b nn : Nat) {L : List (Dt × Unit)} (hL : OkL L) (hN : L.length ≤ 100000) (w : World)
    (hown : w.ownsMap Tryz.prog 41 unitElem b nn (MD unD L)) (h0 : C w) (hC : ∀ X, C X ↔ Below w.heap.size w X)
    (hin : ∀ d ∈ L.map Prod.fst, ∀ X, C X → Calls Tryz.prog gi (#[dval d] ++ lbi) X fun e X' => e = .returned (.bool (p d)) ∧ Below X.heap.size X X') :
    Calls Tryz.prog 68 #[.map (some b), .func (.func gi) #[] lbi] w fun e w' => ∃ v M, e = .returned v ∧ Pick L p M ∧ OwnD w' w.heap.size v M ∧ Below w.heap.size w w' := by
  have hmf : ∀ (fn : Fn) (first cap : Array Value) (w : World), (Instr.makeFunc fn first cap).run Tryz.prog w = .ok (.func fn first cap) w := fun _ _ _ _ => rfl
  have hb0 : Below w.heap.size w (w.alloc (.cells #[.func (.func gi) #[] lbi] 53)) := (Below.refl _ _).alloc (Nat.le_refl _) _
  have hbx := Blk.new w 53 #[.func (.func gi) #[] lbi]
  have hw1 := ownsMap_below hown hb0
  have HIN := Lib.hid hin
  have HC := Lib.hid hC
  clear hin hC
  go_enter Tryz.func68, Tryz.ntmps68
  go_upto_region 1 with fail
  change Code.wp _ _ _ _ (w.alloc (.cells #[.func (.func gi) #[] lbi] 53))
  generalize w.alloc (.cells #[.func (.func gi) #[] lbi] 53) = w1 at hb0 hbx hw1 ⊢
  go_wp2_with fail
  refine (keysU_any (some b) w1).mono ?_
  rintro e w2 ⟨rfl, rfl⟩
  go_wp2_with fail
  refine (gatherU_any b nn hL (by omega) w1 hw1).mono ?_
  rintro e w3 ⟨v3, ss, rfl, hall, ho3, hb3⟩
  have hbw3 := hb0.trans (hb3.mono hb0.size)
  have hbx3 := hbx.below hb3 hbx.lt
  have hss : ss.length ≤ 900000 := by
    have : ss.length ≤ (L.map Prod.fst).length := by
      have hp : ss.Perm (L.map Prod.fst) := (List.perm_ext_iff_of_nodup hall.1 (by rw [List.Nodup, List.pairwise_map]; exact hL.1)).2 hall.2
      exact Nat.le_of_eq hp.length_eq
    rw [List.length_map] at this
    omega
  obtain ⟨A3, n3, c3, rfl⟩ := ho3.shape
  have hz : w.heap.size < w1.heap.size := hbx.lt
  have HD := Lib.hid (deleteFunc_any (gf := 102) (cv := .pointer (some ⟨w.heap.size, 0, none⟩)) (q := fun d => !p d) (C := fun X => Below w.heap.size w X ∧ Blk X w.heap.size 53 #[.func (.func gi) #[] lbi]) enter_pickU _ ss (w1.heap.size + 1) w3 ho3 hss ⟨hbw3, hbx3⟩
    (fun X X' h hb => ⟨h.1.trans (hb.mono h.1.size), h.2.below hb h.2.lt⟩)
    (fun X X' h hg => by
      have hlt := fun k e => (ho3.lt k e).1
      exact ⟨h.1.grown hg h.1.size (fun k e => by have := hlt k e; omega), h.2.grownP hg (fun e => by have := hlt _ e.symm; omega)⟩)
    (fun d hd X h => pickU1_any eg w.heap.size (p d) d X h.2 (HIN.out d ((hall.2 d).1 hd) _ ((HC.out _).2 (h.1.alloc h.1.size _)))))
  clear hw1 hbx hb0 ho3 hb3 hbx3
  go_wp2_with fail
  refine HD.out.mono ?_
  rintro e w4 ⟨v4, rfl, ho4, hob, hg4, hc4, _⟩
  clear HD
  obtain ⟨A4, n4, c4, rfl⟩ := ho4.shape
  have hsl : (stay (fun d => !p d) ss).length ≤ 100000 := by
    have h1 : (stay (fun d => !p d) ss).length ≤ ss.length := List.length_filter_le _ _
    have hp : ss.Perm (L.map Prod.fst) := (List.perm_ext_iff_of_nodup hall.1 (by rw [List.Nodup, List.pairwise_map]; exact hL.1)).2 hall.2
    have := hp.length_eq
    rw [List.length_map] at this
    omega
  have hlt4 := fun k e => (ho4.lt k e).1
  go_wp2_with fail
  refine (osort_any _ _ (w1.heap.size + 1) w4 ho4 hsl).mono ?_
  rintro e w5 ⟨rfl, M, ho5, hord, hperm, _, hmem, hg5⟩
  have hbw5 : Below w.heap.size w w5 := hc4.grown hg5 hc4.size (fun k e => by have := hlt4 k e; omega)
  have HP := Lib.hid (show Pick L p M from ⟨ord_nodup hord (hperm.nodup_iff.2 ((hall.1).filter _)), fun d => by
    rw [hmem]
    unfold stay
    rw [List.mem_filter, hall.2]
    simp⟩)
  have HO := Lib.hid (And.intro (ho5.mono (show w.heap.size ≤ w1.heap.size + 1 by omega)) hbw5)
  clear ho5 ho4 hg5 hg4 hmem hperm hord hall
  go_wp2
  go_ret
  exact ⟨_, M, rfl, HP.out, HO.out⟩
end Go.Proofs.YtldfaaahmpncbaaGreat

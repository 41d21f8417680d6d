/-
  Dests appended to a row of the call's own.
-/
import Derived.Test.YtigepbklpiilpaaEvTo
import Derived.Maps.AppendAt
namespace Go.Proofs.Ytigepbklpiilpaa
open Go.RowKit
open CtxM
set_option linter.unusedVariables false
set_option linter.unusedSimpArgs false

theorem info_dest : (Try.prog.info? 55).map (fun i => (i.zero, i.size, i.bytes)) = some (some (.agg #[.int .i64 0, .int .u64 0, .string ⟨#[]⟩]), 3, 32) := by kernel_rfl
def dev (d : De) : List Value := [.int .i64 d.1.1, .int .u64 (d.1.2 : Int), .string d.2]
def devl (T : List De) : List Value := T.flatMap dev
theorem devl_cons (d : De) (T : List De) : devl (d :: T) = .int .i64 d.1.1 :: .int .u64 (d.1.2 : Int) :: .string d.2 :: devl T := rfl
theorem devl_append (L M : List De) : devl (L ++ M) = devl L ++ devl M := by unfold devl; rw [List.flatMap_append]
theorem devl_length : ∀ T : List De, (devl T).length = T.length * 3
  | [] => rfl
  | d :: T => by rw [devl_cons, List.length_cons, List.length_cons, List.length_cons, List.length_cons, devl_length T]; omega
theorem devl_get : ∀ (T : List De) (j : Nat) (h : j < T.length), (devl T)[j * 3]? = some (.int .i64 T[j].1.1) ∧ (devl T)[j * 3 + 1]? = some (.int .u64 (T[j].1.2 : Int)) ∧ (devl T)[j * 3 + 2]? = some (.string T[j].2)
  | [], j, h => absurd h (by simp)
  | d :: T, 0, _ => by rw [devl_cons]; exact ⟨rfl, rfl, rfl⟩
  | d :: T, j + 1, h => by
    rw [devl_cons, show (j + 1) * 3 = j * 3 + 1 + 1 + 1 by omega]
    exact devl_get T j (by simpa using h)
theorem devl_one (T : List De) : ∀ v ∈ devl T, v.oneCell' = true := by
  intro v hv
  obtain ⟨d, _, hd⟩ := List.mem_flatMap.1 hv
  simp [dev] at hd
  rcases hd with rfl | rfl | rfl <;> rfl

/-- A row of dests of the call's own (or nil). -/
def OwnE (w : World) (base : Nat) (v : Value) (T : List De) : Prop := w.ownsRow base 55 3 v T.length (devl T)
theorem OwnE.nil {w : World} {base : Nat} : OwnE w base (.slice none 0 0) [] := World.ownsRow_nil w base _ 3
theorem OwnE.mono {w : World} {base B : Nat} {v : Value} {T : List De} (h : OwnE w base v T) (hB : B ≤ base) : OwnE w B v T := by
  refine ⟨h.1, ?_⟩
  rcases h.2 with h2 | ⟨g, cap, cur, hv, hg, hh, r⟩
  · exact Or.inl h2
  · exact Or.inr ⟨g, cap, cur, hv, by omega, hh, r⟩
theorem OwnE.lt {w : World} {base : Nat} {v : Value} {T : List De} (h : OwnE w base v T) : ∀ k, v.ownBlock = some k → base ≤ k ∧ k < w.heap.size := World.ownsRow.lt h
theorem OwnE.keep {w w' : World} {base : Nat} {v : Value} {T : List De} (h : OwnE w base v T) (hk : ∀ k, v.ownBlock = some k → w'.heap[k]? = w.heap[k]?) : OwnE w' base v T := by
  refine ⟨h.1, ?_⟩
  rcases h.2 with h2 | ⟨g, cap, cur, rfl, hg, hh, r⟩
  · exact Or.inl h2
  · exact Or.inr ⟨g, cap, cur, rfl, hg, (hk g rfl).trans hh, r⟩
theorem OwnE.below {w w' : World} {base : Nat} {v : Value} {T : List De} (h : OwnE w base v T) (hb : Below w.heap.size w w') : OwnE w' base v T :=
  h.keep fun k hk => hb.block k (h.lt k hk).2
theorem OwnE.grown {w w' : World} {base g : Nat} {v : Value} {T : List De} (h : OwnE w base v T) (hgr : w.grownBy w' (some g)) (hg : g < base) : OwnE w' base v T :=
  h.keep fun k hk => hgr.block k (h.lt k hk).2 (fun e => by injection e with e; have := (h.lt k hk).1; omega)
theorem OwnE.se {w : World} {base : Nat} {v : Value} {T : List De} (h : OwnE w base v T) : Se w v T := by
  rcases h.2 with ⟨rfl, h0⟩ | ⟨g, cap, cur, rfl, _, hh, hnc, _, hs, ht⟩
  · refine ⟨none, 0, by rw [h0], by omega, fun hn => absurd hn (by omega)⟩
  · refine ⟨some ⟨g, 0, none⟩, cap, rfl, hnc, fun _ => ⟨g, 0, rfl, fun j hj => ?_⟩⟩
    have h1 := World.ownsRow.cells h (g := g) rfl (j * 3) _ (devl_get T j hj).1
    have h2 := World.ownsRow.cells h (g := g) rfl (j * 3 + 1) _ (devl_get T j hj).2.1
    have h3 := World.ownsRow.cells h (g := g) rfl (j * 3 + 2) _ (devl_get T j hj).2.2
    rw [add_plain] at h1 h2 h3
    exact ⟨h1, by rw [show 0 + j * 3 + 1 = 0 + (j * 3 + 1) by omega]; exact h2, by rw [show 0 + j * 3 + 2 = 0 + (j * 3 + 2) by omega]; exact h3⟩
/-- One dest in a block of its own, as a slice. -/
theorem Se.one {w : World} {g : Nat} {t : TypeId} (d : De) (h : Blk w g t #[.int .i64 d.1.1, .int .u64 (d.1.2 : Int), .string d.2]) (c : Nat) (hc : 1 ≤ c) : Se w (.slice (some ⟨g, 0, none⟩) 1 c) [d] := by
  refine ⟨_, c, rfl, hc, fun _ => ⟨g, 0, rfl, fun j hj => ?_⟩⟩
  have h0 : j = 0 := by simpa using hj
  subst h0
  exact ⟨by rw [h.cell]; rfl, by rw [h.cell]; rfl, by rw [h.cell]; rfl⟩

section
variable {P : Program} (w : World)
theorem run_append_dests (base : Nat) (t ty : TypeId) (i : TypeInfo) (ht : P.underlying t = some (.slice 55)) (hi : P.info? 55 = some i) (hz : i.zero = some (.agg #[.int .i64 0, .int .u64 0, .string ⟨#[]⟩]))
    (hsize : i.size = 3) (hby : i.bytes = 32) (v : Value) (l : List De) (hown : OwnE w base v l) (v2 : Value) (m : List De) (hm : Se w v2 m) (hm1 : 0 < m.length) (hlen : l.length + m.length ≤ 1000000) (hbase : base ≤ w.heap.size) :
    ∃ v' w', (Builtin.append_ #[t, t] ty #[v, v2]).run P w = .ok v' w' ∧ OwnE w' base v' (l ++ m) ∧ w.grownBy w' v.ownBlock := by
  obtain ⟨A, c, rfl, hc, ha⟩ := hm
  obtain ⟨b, o, rfl, hx⟩ := ha hm1
  have hcells : ∀ j u, (devl m)[j]? = some u → w.cell? ((⟨b, o, none⟩ : Addr).add j) = some u := by
    intro j u hu
    have hj : j < m.length * 3 := by
      have := (List.getElem?_eq_some_iff.1 hu).1
      rw [devl_length] at this
      exact this
    rw [add_plain]
    obtain ⟨k, hk | hk | hk⟩ : ∃ k, j = k * 3 ∨ j = k * 3 + 1 ∨ j = k * 3 + 2 := ⟨j / 3, by omega⟩
    · subst hk
      rw [(devl_get m k (by omega)).1] at hu
      rw [(hx k (by omega)).1]
      exact hu
    · subst hk
      rw [(devl_get m k (by omega)).2.1] at hu
      rw [show o + (k * 3 + 1) = o + k * 3 + 1 by omega, (hx k (by omega)).2.1]
      exact hu
    · subst hk
      rw [(devl_get m k (by omega)).2.2] at hu
      rw [show o + (k * 3 + 2) = o + k * 3 + 2 by omega, (hx k (by omega)).2.2]
      exact hu
  obtain ⟨v', w', hrun, h2, h3, h4, h5⟩ := run_append_own_at (P := P) w base t ty _ i _ 3 32 ht hi hz hsize hby rfl (by decide) v l.length (devl l) hown ⟨b, o, none⟩ m.length c (devl m) (devl_length m) hcells (devl_one m)
    (by unfold maxLen; omega) (by omega) hbase
  exact ⟨v', w', hrun, by unfold OwnE; rw [List.length_append, devl_append]; exact h2, h3⟩
theorem wpList_append_dests {ops : Array Oper} {rest : List Oper} {o : Oper} {a : Act} {Q : Exit → Act → World → Prop} (hgd : o.guard = none) (s x : Operand) (t : TypeId)
    (ho : o.op = .call { callee := .builtin .append, args := #[s, x], argTypes := #[t, t] })
    (base : Nat) (i : TypeInfo) (ht : P.underlying t = some (.slice 55)) (hi : P.info? 55 = some i) (hz : i.zero = some (.agg #[.int .i64 0, .int .u64 0, .string ⟨#[]⟩]))
    (hsize : i.size = 3) (hby : i.bytes = 32) (v : Value) (l : List De) (hs : a.eval s = v) (hown : OwnE w base v l)
    (v2 : Value) (m : List De) (hx : a.eval x = v2) (hm : Se w v2 m) (hm1 : 0 < m.length) (hlen : l.length + m.length ≤ 1000000) (hbase : base ≤ w.heap.size)
    (h : ∀ v' w', OwnE w' base v' (l ++ m) → w.grownBy w' v.ownBlock → wpList P ops Q rest (a.put o.dst v') w') : wpList P ops Q (o :: rest) a w := by
  refine wpList_plain hgd fun K hK => ?_
  obtain ⟨v', w', hr, h2, h3⟩ := run_append_dests (P := P) w base t o.type i ht hi hz hsize hby v l hown v2 m hm hm1 hlen hbase
  unfold Oper.wp execOp
  simp only [ho, resolve, invoke, builtin, Sem.run_bind, Sem.run_pure, Result.andThen_ok, List.map_toArray, List.map_cons, List.map_nil, hs, hx, hr]
  exact hK _ _ (h v' w' h2 h3)
end
end Go.Proofs.Ytigepbklpiilpaa

/-
  The walk of the document's press: its words.
-/
import Derived.Test.YthlopecllhdmhaaDoorShaRefPad
namespace Go.Proofs.YthlopecllhdmhaaDoor
open Go.RowKit
set_option linter.unusedVariables false
set_option linter.unusedSimpArgs false

section
variable {P : Program} (w : World)
/-- A word appended to a row of the call's own: what the old slice holds stays. -/
theorem run_append_u32k (base : Nat) (t ty : TypeId) (i : TypeInfo) (ht : P.underlying t = some (.slice 72)) (hi : P.info? 72 = some i) (hz : i.zero = some (.int .u32 0))
    (hsize : i.size = 1) (hby : i.bytes = 4) (v : Value) (l : List Nat) (hown : OwnU w base v l) (gx : Nat) (x : Nat) (hgx : w.cell? ⟨gx, 0, none⟩ = some (.int .u32 (x : Int))) (hlen : l.length ≤ 1000000) (hbase : base ≤ w.heap.size) :
    ∃ v' w', (Builtin.append_ #[t, t] ty #[v, .slice (some ⟨gx, 0, none⟩) 1 1]).run P w = .ok v' w' ∧ OwnU w' base v' (l ++ [x]) ∧ w.grownBy w' v.ownBlock ∧ Slu w' v l := by
  have hcells : ∀ j u, [uv x][j]? = some u → w.cell? ((⟨gx, 0, none⟩ : Addr).add j) = some u := by
    intro j u hu
    have hj : j < 1 := by
      have := (List.getElem?_eq_some_iff.1 hu).1
      simpa using this
    obtain rfl : j = 0 := by omega
    simp at hu
    rw [add_plain, ← hu]; exact hgx
  have h1c : ∀ u ∈ [uv x], u.oneCell' = true := by intro u hu; simp at hu; rw [hu]; rfl
  obtain ⟨v', w', hrun, h2, h3, _, hat⟩ := run_append_own_at (P := P) w base t ty 72 i (.int .u32 0) 1 4 ht hi hz hsize hby rfl (by decide) v l.length (l.map uv) hown ⟨gx, 0, none⟩ 1 1 [uv x] (by simp) hcells
    h1c (by unfold maxLen; omega) (by omega) hbase
  refine ⟨v', w', hrun, by unfold OwnU; rw [List.length_append, List.map_append]; exact h2, h3, ?_⟩
  rcases hown.2 with ⟨rfl, h0⟩ | ⟨g, cap, cur, rfl, hbg, hg, hnc, hcm, hcs, htake⟩
  · exact ⟨none, 0, by rw [h0], by omega, fun hn => absurd hn (by omega)⟩
  · refine ⟨some ⟨g, 0, none⟩, cap, rfl, hnc, fun _ => ⟨g, 0, rfl, fun j hj => ?_⟩⟩
    have hlt : g < w.heap.size := by
      rcases Nat.lt_or_ge g w.heap.size with hlt | hge
      · exact hlt
      · rw [Array.getElem?_eq_none hge] at hg; cases hg
    have hold : w.cell? ⟨g, 0 + j, none⟩ = some (.int .u32 (l[j] : Int)) := by
      have := World.ownsRow.cells hown (g := g) rfl j (uv l[j]) (by simp [List.getElem?_eq_getElem hj])
      rw [add_plain] at this
      exact this
    rcases hat with hat | hat
    · have := World.ownsRow.cells h2 (g := g) hat j (uv l[j]) (by rw [List.getElem?_append_left (by simpa using hj)]; simp [List.getElem?_eq_getElem hj])
      rw [add_plain] at this
      exact this
    · by_cases hroom : l.length + 1 ≤ cap
      · have hr := run_append_room (P := P) w t ty 72 i ht hi g l.length cap cur hg ⟨gx, 0, none⟩ 1 1 [uv x] (by simp [hsize]) hcells h1c hroom (by rw [hsize]; simp; omega)
        rw [hr] at hrun
        injection hrun with e1 e2
        rw [← e1] at hat
        simp [Value.ownBlock] at hat
        omega
      · have holds : ∀ j u, (l.map uv)[j]? = some u → w.cell? ((⟨g, 0, none⟩ : Addr).add j) = some u := World.ownsRow.cells hown (g := g) rfl
        have hr := run_append_grow (P := P) w t ty 72 i (.int .u32 0) ht hi hz ⟨g, 0, none⟩ l.length cap (l.map uv) (by simp [hsize]) holds ⟨gx, 0, none⟩ 1 1 [uv x] (by simp [hsize]) hcells (by omega) (by omega) (growslice_fits (by omega) (by rw [hby]; omega))
        rw [hr] at hrun
        injection hrun with e1 e2
        rw [← e2]
        exact (World.cell?_alloc_lt w.drew _ _ hlt).trans hold
theorem step_append_u32k {ops : Array Oper} {o : Oper} {a : Act} {K : Act → World → Prop} {Q : Exit → Act → World → Prop} {E : Prop} (hgd : o.guard = none) (s y : Operand) (t : TypeId)
    (ho : o.op = .call { callee := .builtin .append, args := #[s, y], argTypes := #[t, t] })
    (base : Nat) (i : TypeInfo) (ht : P.underlying t = some (.slice 72)) (hi : P.info? 72 = some i) (hz : i.zero = some (.int .u32 0))
    (hsize : i.size = 1) (hby : i.bytes = 4) (v : Value) (l : List Nat) (hs : a.eval s = v) (hown : OwnU w base v l)
    (g : Nat) (x : Nat) (hx : a.eval y = .slice (some ⟨g, 0, none⟩) 1 1) (hg : w.cell? ⟨g, 0, none⟩ = some (.int .u32 (x : Int))) (hlen : l.length ≤ 1000000) (hbase : base ≤ w.heap.size)
    (h : ∀ v' w', OwnU w' base v' (l ++ [x]) → w.grownBy w' v.ownBlock → Slu w' v l → K (a.put o.dst v') w') : if Region.wanted o (yielded ops a.tmps) = true then Oper.wp P o a w K Q else E := by
  have hw : Region.wanted o (yielded ops a.tmps) = true := by simp [Region.wanted, hgd]
  rw [if_pos hw]
  obtain ⟨v', w', hr, h2, h3, h4⟩ := run_append_u32k (P := P) w base t o.type i ht hi hz hsize hby v l hown g x hg hlen hbase
  unfold Oper.wp execOp
  simp only [ho, resolve, invoke, builtin, Sem.run_bind, Sem.run_pure, Result.andThen_ok, List.map_toArray, List.map_cons, List.map_nil, hs, hx, hr]
  exact h v' w' h2 h3 h4
end
end Go.Proofs.YthlopecllhdmhaaDoor

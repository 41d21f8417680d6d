/-
  Slices of words: what they read as, rows of the call's own, appends. The walk of the document's ror.
-/
import Derived.Test.YthlopecllhdmhaaDoorShaEq
import Derived.Deep.OwnRows
import Derived.Deep.RegionHeld3
import Derived.Deep.RegionLaw
import Derived.Test.YthlopecllhdmhaaDoorNum
import Derived.Test.YthlopecllhdmhaaDoorPutA
import Derived.Test.YthlopecllhdmhaaDoorShaRefNumA
namespace Go.Proofs.YthlopecllhdmhaaDoor
open Go.RowKit
set_option linter.unusedVariables false
set_option linter.unusedSimpArgs false

/-- The value v is a slice that reads as the words l in the world w. -/
def Slu (w : World) (v : Value) (l : List Nat) : Prop :=
  ∃ A c, v = .slice A l.length c ∧ l.length ≤ c ∧ (0 < l.length → ∃ b o, A = some ⟨b, o, none⟩ ∧ ∀ j (h : j < l.length), w.cell? ⟨b, o + j, none⟩ = some (.int .u32 (l[j] : Int)))
theorem Slu.below {w w' : World} {v : Value} {l : List Nat} (h : Slu w v l) (hb : Below w.heap.size w w') : Slu w' v l := by
  obtain ⟨A, c, rfl, hc, ha⟩ := h
  refine ⟨A, c, rfl, hc, fun hn => ?_⟩
  obtain ⟨b, o, rfl, hx⟩ := ha hn
  exact ⟨b, o, rfl, fun j hj => (hb.cell (World.block_lt_of_cell? w _ (hx j hj))).trans (hx j hj)⟩
theorem Slu.len {w : World} {A : Option Addr} {n c : Nat} {l : List Nat} (h : Slu w (.slice A n c) l) : n = l.length := by
  obtain ⟨A, c, e, _⟩ := h
  injection e
/-- A row of the call's own of words. -/
def OwnU (w : World) (base : Nat) (v : Value) (l : List Nat) : Prop := w.ownsRow base 72 1 v l.length (l.map uv)
theorem OwnU.nil {w : World} {base : Nat} : OwnU w base (.slice none 0 0) [] := World.ownsRow_nil w base _ 1
theorem OwnU.alloc {w : World} {base : Nat} {v : Value} {l : List Nat} (h : OwnU w base v l) (o : Obj) : OwnU (w.alloc o) base v l := World.ownsRow.alloc h o
theorem OwnU.drew {w : World} {base : Nat} {v : Value} {l : List Nat} (h : OwnU w base v l) : OwnU w.drew base v l := h
theorem OwnU.below {w w' : World} {base B : Nat} {v : Value} {l : List Nat} (h : OwnU w base v l) (hb : Below B w w') (hB : w.heap.size ≤ B) : OwnU w' base v l := by
  refine ⟨h.1, ?_⟩
  rcases h.2 with h2 | ⟨g, cap, cur, hv, hg, hh, r⟩
  · exact Or.inl h2
  · have hlt : g < w.heap.size := by
      rcases Nat.lt_or_ge g w.heap.size with hlt | hge
      · exact hlt
      · rw [Array.getElem?_eq_none hge] at hh; cases hh
    exact Or.inr ⟨g, cap, cur, hv, hg, (hb.block g (by omega)).trans hh, r⟩
/-- A row from 'base' on is left by what turns a block below 'base' alone. -/
theorem OwnU.far {w : World} {base : Nat} {v : Value} {l : List Nat} (h : OwnU w base v l) {p : Addr} (hp : p.block < base) (u : Value) : OwnU (w.setCell p u) base v l := by
  refine ⟨h.1, ?_⟩
  rcases h.2 with h2 | ⟨g, cap, cur, hv, hg, hh, r⟩
  · exact Or.inl h2
  · exact Or.inr ⟨g, cap, cur, hv, hg, (Below.heap_setCell w p u g (by omega)).trans hh, r⟩
theorem OwnU.slu {w : World} {base : Nat} {v : Value} {l : List Nat} (h : OwnU w base v l) : Slu w v l := by
  rcases h.2 with ⟨rfl, h0⟩ | ⟨g, cap, cur, rfl, _, hh, hnc, _, hs, ht⟩
  · refine ⟨none, 0, by rw [h0], by omega, fun hn => absurd hn (by omega)⟩
  · refine ⟨some ⟨g, 0, none⟩, cap, rfl, hnc, fun _ => ⟨g, 0, rfl, fun j hj => ?_⟩⟩
    have := World.ownsRow.cells h (g := g) rfl j (uv l[j]) (by simp [List.getElem?_eq_getElem hj])
    rw [add_plain] at this
    exact this
theorem Slu.shape {w : World} {v : Value} {l : List Nat} (h : Slu w v l) : ∃ A n c, v = .slice A n c := by
  obtain ⟨A, c, rfl, _⟩ := h
  exact ⟨A, _, c, rfl⟩
theorem OwnU.shape {w : World} {base : Nat} {v : Value} {l : List Nat} (h : OwnU w base v l) : ∃ A n c, v = .slice A n c := h.slu.shape

theorem info_u32' : (Tryd.prog.info? 72).map (fun i => (i.zero, i.size, i.bytes)) = some (some (.int .u32 0), 1, 4) := by kernel_rfl
section
variable {P : Program} (w : World)
/-- A word appended to a row of the call's own. -/
theorem run_append_u32 (base : Nat) (t ty : TypeId) (i : TypeInfo) (ht : P.underlying t = some (.slice 72)) (hi : P.info? 72 = some i) (hz : i.zero = some (.int .u32 0))
    (hsize : i.size = 1) (hby : i.bytes = 4) (v : Value) (l : List Nat) (hown : OwnU w base v l) (g : Nat) (x : Nat) (hg : w.cell? ⟨g, 0, none⟩ = some (.int .u32 (x : Int))) (hlen : l.length ≤ 1000000) (hbase : base ≤ w.heap.size) :
    ∃ v' w', (Builtin.append_ #[t, t] ty #[v, .slice (some ⟨g, 0, none⟩) 1 1]).run P w = .ok v' w' ∧ OwnU w' base v' (l ++ [x]) ∧ w.grownBy w' v.ownBlock := by
  have hcells : ∀ j u, [uv x][j]? = some u → w.cell? ((⟨g, 0, none⟩ : Addr).add j) = some u := by
    intro j u hu
    have hj : j < 1 := by
      have := (List.getElem?_eq_some_iff.1 hu).1
      simpa using this
    obtain rfl : j = 0 := by omega
    simp at hu
    rw [add_plain, ← hu]; exact hg
  obtain ⟨v', w', hrun, h2, h3, _, _⟩ := run_append_own_at (P := P) w base t ty 72 i (.int .u32 0) 1 4 ht hi hz hsize hby rfl (by decide) v l.length (l.map uv) hown ⟨g, 0, none⟩ 1 1 [uv x] (by simp) hcells
    (by intro u hu; simp at hu; rw [hu]; rfl) (by unfold maxLen; omega) (by omega) hbase
  exact ⟨v', w', hrun, by unfold OwnU; rw [List.length_append, List.map_append]; exact h2, h3⟩
theorem wpList_append_u32 {ops : Array Oper} {rest : List Oper} {o : Oper} {a : Act} {Q : Exit → Act → World → Prop} (hgd : o.guard = none) (s y : Operand) (t : TypeId)
    (ho : o.op = .call { callee := .builtin .append, args := #[s, y], argTypes := #[t, t] })
    (base : Nat) (i : TypeInfo) (ht : P.underlying t = some (.slice 72)) (hi : P.info? 72 = some i) (hz : i.zero = some (.int .u32 0))
    (hsize : i.size = 1) (hby : i.bytes = 4) (v : Value) (l : List Nat) (hs : a.eval s = v) (hown : OwnU w base v l)
    (g : Nat) (x : Nat) (hx : a.eval y = .slice (some ⟨g, 0, none⟩) 1 1) (hg : w.cell? ⟨g, 0, none⟩ = some (.int .u32 (x : Int))) (hlen : l.length ≤ 1000000) (hbase : base ≤ w.heap.size)
    (h : ∀ v' w', OwnU w' base v' (l ++ [x]) → w.grownBy w' v.ownBlock → wpList P ops Q rest (a.put o.dst v') w') : wpList P ops Q (o :: rest) a w := by
  refine wpList_plain hgd fun K hK => ?_
  obtain ⟨v', w', hr, h2, h3⟩ := run_append_u32 (P := P) w base t o.type i ht hi hz hsize hby v l hown g x hg hlen hbase
  unfold Oper.wp execOp
  simp only [ho, resolve, invoke, builtin, Sem.run_bind, Sem.run_pure, Result.andThen_ok, List.map_toArray, List.map_cons, List.map_nil, hs, hx, hr]
  exact hK _ _ (h v' w' h2 h3)
end
/-- What an append turns lies in the row's own block. -/
theorem below_append {w w' : World} {B base : Nat} {w0 : World} {v : Value} {l : List Nat} (hb : Below B w0 w) (hown : OwnU w base v l) (hgr : w.grownBy w' v.ownBlock) (hB : B ≤ base) (hs : B ≤ w.heap.size) : Below B w0 w' :=
  hb.grown hgr hs (fun k hk => Nat.le_trans hB (World.ownsRow.lt hown k hk).1)
theorem Blk.appended {w w' : World} {g base : Nat} {t : TypeId} {cs : Array Value} {v : Value} {l : List Nat} (h : Blk w g t cs) (hown : OwnU w base v l) (hgr : w.grownBy w' v.ownBlock) (hg : g < base) : Blk w' g t cs :=
  h.grown hgr (fun e => by have := (World.ownsRow.lt hown g e.symm).1; omega)

theorem ror_or (x n : Nat) (hx : x < 4294967296) : bits .or .u32 ((x : Int) / 2 ^ n) ((x : Int) * 2 ^ (32 - n) % 4294967296) = (rorN x n : Int) := by
  have e1 : ((x : Int) / 2 ^ n) = ((x / 2 ^ n : Nat) : Int) := by simp
  have e2 : ((x : Int) * 2 ^ (32 - n) % 4294967296) = ((x * 2 ^ (32 - n) % 4294967296 : Nat) : Int) := by simp
  rw [e1, e2, u32_or_nat _ _ (Nat.lt_of_le_of_lt (Nat.div_le_self _ _) hx) (Nat.mod_lt _ (by decide)), rorN, Nat.or_comm]

theorem refRor_any (x n : Nat) (w : World) (hx : x < 4294967296) (h1 : 1 ≤ n) (h2 : n ≤ 31) :
    Calls Tryd.prog 53 #[.int .u32 (x : Int), .int .u64 (n : Int)] w fun e w' => e = .returned (.int .u32 (rorN x n : Int)) ∧ w = w' := by
  have H := Lib.hid (ror_or x n hx)
  have hs : IntKind.u64.wrap (32 - (n : Int)) = ((32 - n : Nat) : Int) := by rw [IntKind.wrap_u64]; omega
  go_enter Tryd.func53, Tryd.ntmps53
  go_wp2
  go_ret
  exact ⟨ret_int H.out, rfl⟩
end Go.Proofs.YthlopecllhdmhaaDoor

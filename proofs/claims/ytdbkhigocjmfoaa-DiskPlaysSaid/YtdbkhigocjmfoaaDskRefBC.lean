/-
  The document's Find, Room, write, done, Lay.
-/
import Derived.Test.YtdbkhigocjmfoaaDskRefA
namespace Go.Proofs.Ytdbkhigocjmfoaa
open Go.RowKit
open DskM
set_option linter.unusedVariables false
set_option linter.unusedSimpArgs false
set_option maxRecDepth 20000
attribute [local go_sem] Oper.semAt_some

def refI (F : List Fp) (n : Nm) : Nat := if mayB n = true then (if isP F n = true then posP F n else 0) else 0
def refE (F : List Fp) (n : Nm) : Int := if mayB n = true then (if isP F n = true then 0 else 6) else 2
theorem ret_ii {a b : Int} {x y : Int} (h : a = b) (k : x = y) : Ending.returned (.tuple #[.int .i64 a, .int .i64 x]) = .returned (.tuple #[.int .i64 b, .int .i64 y]) := by rw [h, k]
section
variable {w w' : World} {q : Nat} {v : Value} {S : Ds} {R : List Fr}
set_option maxHeartbeats 2000000 in
theorem find_ref (h : Rd w q v S R) (hl : R.length ≤ 64) (s : ByteArray) :
    Calls Try.prog 35 #[.pointer (some ⟨q, 0, none⟩), .string s] w fun e w' => e = .returned (.tuple #[.int .i64 (refI (pl R) s.data.toList : Int), .int .i64 (refE (pl R) s.data.toList)]) ∧ Below w.heap.size w w' := by
  have hm := refMay_any s w
  have HAT := Lib.hid (fun W (hb : Below w.heap.size w W) => at_any (h.below hb) hl s)
  cases hc : mayB s.data.toList with
  | false =>
    rw [hc] at hm
    have HM := Lib.hid hm
    have E := Lib.hid (show refI (pl R) s.data.toList = 0 ∧ refE (pl R) s.data.toList = 2 by unfold refI refE; rw [hc]; exact ⟨rfl, rfl⟩)
    clear h hm hc
    go_enter Try.func35, Try.ntmps35
    go_wp2_with fail
    refine HM.out.mono ?_
    rintro e w1 ⟨rfl, hb1⟩
    go_wp2
    go_ret2
    exact ⟨ret_ii (by rw [E.out.1]; rfl) (by rw [E.out.2]), hb1⟩
  | true =>
    rw [hc] at hm
    have HM := Lib.hid hm
    have E := Lib.hid (show refI (pl R) s.data.toList = (if isP (pl R) s.data.toList = true then posP (pl R) s.data.toList else 0) ∧ refE (pl R) s.data.toList = (if isP (pl R) s.data.toList = true then 0 else 6) by unfold refI refE; rw [hc]; exact ⟨rfl, rfl⟩)
    clear h hm hc
    go_enter Try.func35, Try.ntmps35
    go_wp2_with fail
    refine HM.out.mono ?_
    rintro e w1 ⟨rfl, hb1⟩
    have HB1 := Lib.hid hb1
    clear hb1
    go_wp2_with fail
    refine (HAT.out w1 HB1.out).mono ?_
    rintro e w2 ⟨rfl, hb2⟩
    have HB2 := Lib.hid (HB1.out.trans (hb2.mono HB1.out.size))
    clear hb2
    generalize posP (pl R) s.data.toList = k at *
    generalize isP (pl R) s.data.toList = b at *
    cases b with
    | true =>
      go_wp2
      go_ret2
      exact ⟨ret_ii (by rw [E.out.1]; rfl) (by rw [E.out.2]; rfl), HB2.out⟩
    | false =>
      go_wp2
      go_ret2
      exact ⟨ret_ii (by rw [E.out.1]; rfl) (by rw [E.out.2]; rfl), HB2.out⟩
/-- What the files' bytes come to. -/
def totR (R : List Fr) : Nat := (R.map fun f => f.bs.length).sum
theorem total_pl (R : List Fr) : totalP (pl R) = totR R := by unfold totalP pl totR; rw [List.map_map]; rfl
theorem totR_step (R : List Fr) (k : Nat) (h : k < R.length) : totR (R.take (k + 1)) = totR (R.take k) + R[k].bs.length := by
  unfold totR
  rw [← List.take_append_getElem h, List.map_append, List.sum_append]
  simp
theorem totR_le (R : List Fr) (k : Nat) : totR (R.take k) ≤ totR R := by
  conv => rhs; rw [← List.take_append_drop k R]
  unfold totR
  rw [List.map_append, List.sum_append]
  omega
set_option maxHeartbeats 2000000 in
theorem room_ref (h : Rd w q v S R) (hl : R.length ≤ 64) (hc : S.cap ≤ 16777216) (ht : totalP (pl R) ≤ S.cap) :
    Calls Try.prog 36 #[.pointer (some ⟨q, 0, none⟩)] w fun e w' => e = .returned (.int .i64 ((S.cap : Int) - (totalP (pl R) : Int))) ∧ Below w.heap.size w w' := by
  obtain ⟨A, c, rfl, hc1, hc2⟩ := h.row.shape
  have q0 := h.c0
  have q1 := h.c1
  rw [total_pl] at ht ⊢
  have HX := Lib.hid (show ∀ k (hk : k < R.length), ∃ g A1 c1, A = some ⟨g, 0, none⟩ ∧ w.cell? ⟨g, k * 3 + 1, none⟩ = some (.slice A1 R[k].bs.length c1) from fun k hk => by
    obtain ⟨g, c', e2, _, _, hx, _⟩ := h.row.form (by omega)
    injection e2 with a1 a2 a3
    have ho := (h.byt _ (List.getElem_mem hk)).sl
    obtain ⟨A1, n1, c1, e1⟩ := ho.shape
    rw [e1] at ho
    have := ho.len
    subst this
    exact ⟨g, A1, c1, a1, by rw [(hx k hk).2.1, e1]⟩)
  have HT := Lib.hid (And.intro hl (And.intro hc ht))
  clear h hl hc ht
  go_enter Try.func36, Try.ntmps36
  go_wp2
  go_loop [3, 4] (fun x i => ∃ (k : Nat) (X : Int), k ≤ R.length ∧ i = .int .i64 (k : Int) ∧ x = .int .i64 X ∧ X = (S.cap : Int) - (totR (R.take k) : Int)) (fun _ i => R.length - (intOf i).toNat)
  case atStart => exact ⟨0, _, Nat.zero_le _, rfl, rfl, by simp [totR]⟩
  case round =>
    obtain ⟨k, X, hk, rfl, rfl, hX⟩ := hrel
    have h0' : (0 : Int) ≤ (k : Int) := by omega
    by_cases hlt : k < R.length
    · have hlt' : (k : Int) < (R.length : Int) := by omega
      have h64 : (k : Int) < 64 := by have := HT.out.1; omega
      obtain ⟨g, A1, c1, rfl, hx⟩ := HX.out k hlt
      have hs := totR_step R k hlt
      have hle := totR_le R (k + 1)
      have HS := Lib.hid (show X - (R[k].bs.length : Int) = (S.cap : Int) - (totR (R.take (k + 1)) : Int) by omega)
      have hw : IntKind.i64.wrap (X - (R[k].bs.length : Int)) = X - (R[k].bs.length : Int) := by
        have := HT.out
        rw [IntKind.wrap_i64] <;> omega
      have HLT := Lib.hid hlt
      clear hs hle hX
      go_wp2
      go_round
      case rel => exact ⟨k + 1, _, HLT.out, by go_num, rfl, HS.out⟩
      case measure => simp [intOf]; omega
    · obtain rfl : k = R.length := by omega
      have HXX := Lib.hid (show X = (S.cap : Int) - (totR R : Int) by rw [hX, List.take_length])
      clear hX hlt hk
      go_wp2
      go_ret
      exact ⟨ret_int HXX.out, Below.refl _ _⟩
theorem done_ref (b : Bool) (w : World) : Calls Try.prog 62 #[.bool b] w fun e w' => e = .returned (.int .i64 (if b = true then 0 else 8)) ∧ w' = w := by
  cases b with
  | true =>
    go_enter Try.func62, Try.ntmps62
    go_wp2
    go_ret
    exact ⟨rfl, rfl⟩
  | false =>
    go_enter Try.func62, Try.ntmps62
    go_wp2
    go_ret
    exact ⟨rfl, rfl⟩
end
end Go.Proofs.Ytdbkhigocjmfoaa

/-
  The document's write, Lay.
-/
namespace Go.Proofs.Ytdbkhigocjmfoaa
open Go.RowKit
open DskM
set_option linter.unusedVariables false
set_option linter.unusedSimpArgs false
set_option maxRecDepth 20000
attribute [local go_sem] Oper.semAt_some

/-- What holds of a disk's numbers and files. -/
structure Fit (S : Ds) (F : List Fp) : Prop where
  wr : S.wr ≤ 1000000
  cap : S.cap ≤ 16777216
  fuse1 : -9223372036854775808 ≤ S.fuse
  fuse2 : S.fuse ≤ 9223372036854775807
  room : totalP F ≤ S.cap
  few : F.length ≤ 64
  rise : RiseP F
  las : ∀ x ∈ F, x.2.2 ≤ x.2.1.length
def wOk (S : Ds) : Bool := !S.dead && !decide (S.fuse = 0)
def wLast (S : Ds) : Bool := !S.dead && decide (S.fuse = 0)
def wS (S : Ds) : Ds := if S.dead = true then S else if S.fuse = 0 then S.gone else S.step
/-- A write, by what it answers. -/
theorem writeS_w (S : Ds) (d t F : List Fp) : writeS S d t F = ((if wOk S = true then 0 else 8), wS S, if wOk S = true then d else if wLast S = true then t else F) := by
  unfold writeS wOk wLast wS
  cases S.dead with
  | true => simp
  | false =>
    by_cases h : S.fuse = 0
    · simp [h]
    · simp [h]
theorem ret_bb {a b x y : Bool} (h : a = b) (k : x = y) : Ending.returned (.tuple #[.bool a, .bool x]) = .returned (.tuple #[.bool b, .bool y]) := by rw [h, k]
section
variable {w w' : World} {q : Nat} {v : Value} {S : Ds} {R : List Fr}
set_option maxHeartbeats 2000000 in
theorem write_ref (h : Rd w q v S R) (hf : Fit S (pl R)) :
    Calls Try.prog 61 #[.pointer (some ⟨q, 0, none⟩)] w fun e w' => e = .returned (.tuple #[.bool (wOk S), .bool (wLast S)]) ∧ Rd w' q v (wS S) R ∧ Keep (fun i => i = q) w w' := by
  have h3 := h.c3
  have h4 := h.c4
  have h2 := h.c2
  have f4 := h.blk.frozen 4
  have f3 := h.blk.frozen 3
  have f2 := h.blk.frozen 2
  have hwr : (S.wr : Int) ≤ 1000000 := by have := hf.wr; omega
  have hwr0 : (0 : Int) ≤ (S.wr : Int) := by omega
  have hw1 : IntKind.i64.wrap ((S.wr : Int) + 1) = (S.wr : Int) + 1 := by rw [IntKind.wrap_i64] <;> omega
  have hb4 : Blk (w.setCell ⟨q, 4, none⟩ (.int .i64 ((S.wr : Int) + 1))) q 33 (rdc v { S with wr := S.wr + 1 }) := h.blk.set_ 4 _
  have hk4 : Keep (fun i => i = q) w (w.setCell ⟨q, 4, none⟩ (.int .i64 ((S.wr : Int) + 1))) := Keep.setCell w _ _ rfl
  cases hd : S.dead with
  | true =>
    have E := Lib.hid (show wOk S = false ∧ wLast S = false ∧ wS S = S by unfold wOk wLast wS; rw [hd]; exact ⟨rfl, rfl, rfl⟩)
    have H := Lib.hid h
    rw [hd] at h3
    clear h hf hb4 hk4 hd
    go_enter Try.func61, Try.ntmps61
    go_wp2
    go_ret2
    exact ⟨ret_bb E.out.1.symm E.out.2.1.symm, by rw [E.out.2.2]; exact H.out, Keep.refl _ _⟩
  | false =>
    rw [hd] at h3
    by_cases h0 : S.fuse = 0
    · have E := Lib.hid (show wOk S = false ∧ wLast S = true ∧ wS S = S.gone by unfold wOk wLast wS; rw [hd, h0]; exact ⟨rfl, rfl, rfl⟩)
      have hb3 : Blk ((w.setCell ⟨q, 4, none⟩ (.int .i64 ((S.wr : Int) + 1))).setCell ⟨q, 3, none⟩ (.bool true)) q 33 (rdc v S.gone) := hb4.set_ 3 _
      have hk3 : Keep (fun i => i = q) w ((w.setCell ⟨q, 4, none⟩ (.int .i64 ((S.wr : Int) + 1))).setCell ⟨q, 3, none⟩ (.bool true)) := hk4.trans (Keep.setCell (S := fun i => i = q) _ _ _ rfl) (fun _ h => h) (fun _ _ h => h)
      have HR := Lib.hid (And.intro (h.turn hk3 hb3 rfl rfl) hk3)
      rw [h0] at h2
      clear h hf hb4 hk4 hd h0 hb3 hk3
      generalize S.wr = n at *
      go_enter Try.func61, Try.ntmps61
      go_wp2
      go_ret2
      exact ⟨ret_bb E.out.1.symm E.out.2.1.symm, by rw [E.out.2.2]; exact HR.out.1, HR.out.2⟩
    · have E := Lib.hid (show wOk S = true ∧ wLast S = false ∧ wS S = S.step by unfold wOk wLast wS; rw [hd, if_neg (by simp), if_neg h0, decide_eq_false h0]; exact ⟨rfl, rfl, rfl⟩)
      have hf0 : (S.fuse == 0) = false := by rw [beq_eq_false_iff_ne]; exact h0
      have hb1 := hf.fuse1
      have hb2 := hf.fuse2
      by_cases hp : 0 < S.fuse
      · have e : rdc v { S with wr := S.wr + 1, fuse := S.fuse - 1 } = rdc v S.step := by unfold Ds.step; rw [if_pos hp]
        have hb3 : Blk ((w.setCell ⟨q, 4, none⟩ (.int .i64 ((S.wr : Int) + 1))).setCell ⟨q, 2, none⟩ (.int .i64 (S.fuse - 1))) q 33 (rdc v S.step) := e ▸ hb4.set_ 2 _
        have hk3 : Keep (fun i => i = q) w ((w.setCell ⟨q, 4, none⟩ (.int .i64 ((S.wr : Int) + 1))).setCell ⟨q, 2, none⟩ (.int .i64 (S.fuse - 1))) := hk4.trans (Keep.setCell (S := fun i => i = q) _ _ _ rfl) (fun _ h => h) (fun _ _ h => h)
        have HR := Lib.hid (And.intro (h.turn hk3 hb3 rfl rfl) hk3)
        have hw2 : IntKind.i64.wrap (S.fuse - 1) = S.fuse - 1 := by rw [IntKind.wrap_i64] <;> omega
        have hpd : decide (0 < S.fuse) = true := decide_eq_true hp
        clear h hf hb4 hk4 hd h0 hb3 hk3 e hp
        generalize S.wr = n at *
        generalize S.fuse = fu at *
        go_enter Try.func61, Try.ntmps61
        go_wp2
        go_ret2
        exact ⟨ret_bb E.out.1.symm E.out.2.1.symm, by rw [E.out.2.2]; exact HR.out.1, HR.out.2⟩
      · have e : rdc v { S with wr := S.wr + 1 } = rdc v S.step := by unfold Ds.step; rw [if_neg hp]
        have HR := Lib.hid (And.intro (h.turn hk4 (e ▸ hb4) rfl rfl : Rd _ q v S.step R) hk4)
        have hpd : decide (0 < S.fuse) = false := decide_eq_false hp
        clear h hf hb4 hk4 hd h0 e hp
        generalize S.wr = n at *
        generalize S.fuse = fu at *
        go_enter Try.func61, Try.ntmps61
        go_wp2
        go_ret2
        exact ⟨ret_bb E.out.1.symm E.out.2.1.symm, by rw [E.out.2.2]; exact HR.out.1, HR.out.2⟩
theorem lay_ref (h : Rd w q v S R) (n : Int) {S' : Ds} (hS : { S with fuse := if n < 0 then -1 else n } = S') :
    Calls Try.prog 46 #[.pointer (some ⟨q, 0, none⟩), .int .i64 n] w fun e w' => e = .returned (.tuple #[]) ∧ Rd w' q v S' R ∧ Keep (fun i => i = q) w w' := by
  have f2 := h.blk.frozen 2
  have h2 := h.c2
  have hb4 : Blk (w.setCell ⟨q, 2, none⟩ (.int .i64 n)) q 33 (rdc v { S with fuse := n }) := h.blk.set_ 2 _
  have hk4 : Keep (fun i => i = q) w (w.setCell ⟨q, 2, none⟩ (.int .i64 n)) := Keep.setCell w _ _ rfl
  by_cases hn : n < 0
  · have hb3 : Blk ((w.setCell ⟨q, 2, none⟩ (.int .i64 n)).setCell ⟨q, 2, none⟩ (.int .i64 (-1))) q 33 (rdc v { S with fuse := -1 }) := hb4.set_ 2 _
    have hk3 : Keep (fun i => i = q) w ((w.setCell ⟨q, 2, none⟩ (.int .i64 n)).setCell ⟨q, 2, none⟩ (.int .i64 (-1))) := hk4.trans (Keep.setCell (S := fun i => i = q) _ _ _ rfl) (fun _ h => h) (fun _ _ h => h)
    have f2' := hb4.frozen 2
    have c2' : (w.setCell ⟨q, 2, none⟩ (.int .i64 n)).cell? ⟨q, 2, none⟩ = some (.int .i64 n) := by rw [hb4.cell]; rfl
    have hd : decide (n < 0) = true := decide_eq_true hn
    have HR := Lib.hid (show Rd _ q v S' R ∧ _ by rw [← hS, if_pos hn]; exact And.intro (h.turn hk3 hb3 rfl rfl) hk3)
    clear hS h hb4 hk4 hb3 hk3 hn
    go_enter Try.func46, Try.ntmps46
    go_wp2
    go_end0
    exact ⟨rfl, HR.out⟩
  · have hd : decide (n < 0) = false := decide_eq_false hn
    have HR := Lib.hid (show Rd _ q v S' R ∧ _ by rw [← hS, if_neg hn]; exact And.intro (h.turn hk4 hb4 rfl rfl) hk4)
    clear hS h hb4 hk4 hn
    go_enter Try.func46, Try.ntmps46
    go_wp2
    go_end0
    exact ⟨rfl, HR.out⟩
end
end Go.Proofs.Ytdbkhigocjmfoaa

/-
  Files appended in a drawn region; the document's drop.
-/
namespace Go.Proofs.Ytdbkhigocjmfoaa
open Go.RowKit
open DskM
set_option linter.unusedVariables false
set_option linter.unusedSimpArgs false
set_option maxRecDepth 20000
attribute [local go_sem] Oper.semAt_some

theorem step_append_files {P : Program} (w : World) {ops : Array Oper} {o : Oper} {a : Act} {K : Act → World → Prop} {Q : Exit → Act → World → Prop} {E : Prop} (hgd : o.guard = none) (s x : Operand) (t : TypeId)
    (ho : o.op = .call { callee := .builtin .append, args := #[s, x], argTypes := #[t, t] })
    (base : Nat) (i : TypeInfo) (ht : P.underlying t = some (.slice 73)) (hi : P.info? 73 = some i) (hz : i.zero = some (.agg #[.string ⟨#[]⟩, .slice none 0 0, .int .i64 0]))
    (hsize : i.size = 3) (hby : i.bytes = 48) (v : Value) (l : List Fr) (hs : a.eval s = v) (hown : OwnF w base v l)
    (v2 : Value) (m : List Fr) (hx : a.eval x = v2) (hm : SlF w v2 m) (hone : ∀ f ∈ m, f.v.oneCell' = true) (hlen : l.length + m.length ≤ 1000000) (hbase : base ≤ w.heap.size)
    (h : ∀ v' w', OwnF w' base v' (l ++ m) → w.grownBy w' v.ownBlock → (v'.ownBlock = v.ownBlock ∨ v'.ownBlock = some w.heap.size) → K (a.put o.dst v') w') : if Region.wanted o (yielded ops a.tmps) = true then Oper.wp P o a w K Q else E := by
  have hw : Region.wanted o (yielded ops a.tmps) = true := by simp [Region.wanted, hgd]
  rw [if_pos hw]
  obtain ⟨v', w', hr, h2, h3, h4⟩ := run_append_files (P := P) w base t o.type i ht hi hz hsize hby v l hown v2 m hm hone hlen hbase
  unfold Oper.wp execOp
  simp only [ho, resolve, invoke, builtin, Sem.run_bind, Sem.run_pure, Result.andThen_ok, List.map_toArray, List.map_cons, List.map_nil, hs, hx, hr]
  exact h v' w' h2 h3 h4
theorem info_file' : ∃ i, Try.prog.info? 73 = some i ∧ i.zero = some (.agg #[.string ⟨#[]⟩, .slice none 0 0, .int .i64 0]) ∧ i.size = 3 ∧ i.bytes = 48 := by
  have h := info_file
  cases hc : Try.prog.info? 73 with
  | none => rw [hc] at h; cases h
  | some i =>
    rw [hc] at h
    simp only [Option.map_some, Option.some.injEq, Prod.mk.injEq] at h
    exact ⟨i, rfl, h⟩
/-- What is behind its first n, at whatever place the slice says. -/
theorem SlF.behind' {w : World} {A : Option Addr} {m c : Nat} {l : List Fr} (h : SlF w (.slice A m c) l) (n : Nat) (hn : n ≤ m) : SlF w (.slice (if c = n then A else A.map (·.add (n * 3))) (m - n) (c - n)) (l.drop n) := by
  have h' := h
  obtain ⟨A', c', e, hc, hc2, hx⟩ := h'
  injection e with e1 e2 e3
  subst e1; subst e3
  by_cases he : n = m
  · refine ⟨_, _, by rw [List.length_drop, ← e2], by rw [List.length_drop]; omega, by omega, fun h0 => ?_⟩
    rw [List.length_drop] at h0
    omega
  · obtain ⟨b, o, rfl, hs⟩ := h.behind n (by omega)
    rw [if_neg (by omega)]
    simp only [Option.map_some, add_plain]
    exact hs
theorem SlF.behind0 {w : World} {g m c : Nat} {l : List Fr} (h : SlF w (.slice (some ⟨g, 0, none⟩) m c) l) (n : Nat) (hn : n ≤ m) : SlF w (.slice (if c = n then some ⟨g, 0, none⟩ else some ⟨g, n * 3, none⟩) (m - n) (c - n)) (l.drop n) := by
  have := h.behind' n hn
  simpa [add_plain] using this
section
variable {w w' : World} {q : Nat} {v : Value} {S : Ds} {R : List Fr}
theorem Rd.one (h : Rd w q v S R) : ∀ f ∈ R, f.v.oneCell' = true := by
  intro f hf
  obtain ⟨A, n, c, e⟩ := (h.byt f hf).shape
  rw [e]
  rfl
theorem below_fresh {w W W' : World} {v : Value} (hb : Below w.heap.size w W) (hg : W.grownBy W' v.ownBlock) (hv : ∀ i, v.ownBlock = some i → w.heap.size ≤ i) : Below w.heap.size w W' :=
  hb.grown hg hb.size hv
set_option maxHeartbeats 4000000 in
theorem drop_ref (h : Rd w q v S R) (hl : R.length ≤ 64) (k : Nat) (hk : k < R.length) :
    Calls Try.prog 63 #[.pointer (some ⟨q, 0, none⟩), .int .i64 (k : Int)] w fun e w' => e = .returned (.tuple #[]) ∧ ∃ v', Rd w' q v' S (R.take k ++ R.drop (k + 1)) ∧ Keep (fun i => i = q) w w' ∧ ∀ i, v'.ownBlock = some i → w.heap.size ≤ i := by
  have hfo : Try.prog.follows .mixedOrders = true := by kernel_rfl
  obtain ⟨i0, hi, hz0, hz1, hz2⟩ := info_file'
  obtain ⟨g, c, rfl, hc1, hc2, _, _⟩ := h.row.form (by omega)
  have hkI : (k : Int) < (R.length : Int) := by omega
  have hk0 : (0 : Int) ≤ (k : Int) := by omega
  have h64 : (R.length : Int) ≤ 64 := by omega
  have hkc : k ≤ c := by omega
  have hk2 : (0 : Int) ≤ (k : Int) + 1 := by omega
  have hk3 : (k : Int) + 1 ≤ (R.length : Int) := by omega
  have hkl : k + 1 ≤ R.length := by omega
  have hkc1 : k + 1 ≤ c := by omega
  have hw1 : IntKind.i64.wrap ((k : Int) + 1) = (k : Int) + 1 := by rw [IntKind.wrap_i64] <;> omega
  have H := Lib.hid h
  have HK := Lib.hid hk
  have HL := Lib.hid hl
  have HBD := Lib.hid (show Below w.heap.size w w.drew from (Below.refl _ _).drew)
  have HC := Lib.hid (show ∀ X, Below w.drew.heap.size w.drew X → X.cell? ⟨q, 0, none⟩ = some (.slice (some ⟨g, 0, none⟩) R.length c) from fun X hX => (h.below (HBD.out.trans (hX.mono HBD.out.size))).c0)
  clear h hl
  go_enter Try.func63, Try.ntmps63
  go_wp2_with fail
  refine tail_begin 18 (S := fun X => Below w.drew.heap.size w.drew X) hfo (by kernel_rfl) (Below.refl _ _) (fun hS0 => ?_)
  refine' tail_take (i := 0) (oi := ⟨some 4, _, _, _, _, _⟩) (v := _) rfl (by kernel_rfl) (by kernel_rfl) (by decide) (fun _ _ _ h => h) (Or.inl ⟨by rfl, ?y0⟩) hS0 ?r0
  case y0 => (intro w' hSw; have s0 := HC.out w' hSw; go_simp; try rfl)
  try simp only [Act.put, List.setIfInBounds_toArray, List.set_cons_zero, List.set_cons_succ]
  refine' tail_take (i := 1) (oi := ⟨some 5, _, _, _, _, _⟩) (v := _) rfl (by kernel_rfl) (by kernel_rfl) (by decide) (fun _ _ _ h => h) (Or.inl ⟨by rfl, ?y1⟩) hS0 ?r1
  case y1 => (intro w' hSw; have s0 := HC.out w' hSw; go_simp; try rfl)
  try simp only [Act.put, List.setIfInBounds_toArray, List.set_cons_zero, List.set_cons_succ]
  refine' tail_take (i := 2) (oi := ⟨some 6, _, _, _, _, _⟩) (v := _) rfl (by kernel_rfl) (by kernel_rfl) (by decide) (fun _ _ _ h => h) (Or.inl ⟨by rfl, ?y2⟩) hS0 ?r2
  case y2 => (intro w' hSw; have s0 := HC.out w' hSw; go_simp; try rfl)
  try simp only [Act.put, List.setIfInBounds_toArray, List.set_cons_zero, List.set_cons_succ]
  refine' tail_take (i := 3) (oi := ⟨some 7, _, _, _, _, _⟩) (v := _) rfl (by kernel_rfl) (by kernel_rfl) (by decide) (fun _ _ _ h => h) (Or.inl ⟨by rfl, ?y3⟩) hS0 ?r3
  case y3 => (intro w' hSw; have s0 := HC.out w' hSw; go_simp; try rfl)
  try simp only [Act.put, List.setIfInBounds_toArray, List.set_cons_zero, List.set_cons_succ]
  refine' tail_take (i := 4) (oi := ⟨some 8, _, _, _, _, _⟩) (v := _) rfl (by kernel_rfl) (by kernel_rfl) (by decide) (fun _ _ _ h => h) (Or.inl ⟨by rfl, ?y4⟩) hS0 ?r4
  case y4 => (intro w' hSw; have s0 := HC.out w' hSw; go_simp; try rfl)
  try simp only [Act.put, List.setIfInBounds_toArray, List.set_cons_zero, List.set_cons_succ]
  refine' tail_take (i := 5) (oi := ⟨some 9, _, _, _, _, _⟩) (v := _) rfl (by kernel_rfl) (by kernel_rfl) (by decide) (fun _ _ _ h => h) (Or.inl ⟨by rfl, ?y5⟩) hS0 ?r5
  case y5 => (intro w' hSw; have s0 := HC.out w' hSw; go_simp; try rfl)
  try simp only [Act.put, List.setIfInBounds_toArray, List.set_cons_zero, List.set_cons_succ]
  refine' tail_take (i := 6) (oi := ⟨some 10, _, _, _, _, _⟩) (v := _) rfl (by kernel_rfl) (by kernel_rfl) (by decide) (fun _ _ _ h => h) (Or.inl ⟨by rfl, ?y6⟩) hS0 ?r6
  case y6 => (intro w' hSw; have s0 := HC.out w' hSw; go_simp; try rfl)
  try simp only [Act.put, List.setIfInBounds_toArray, List.set_cons_zero, List.set_cons_succ]
  refine' tail_take (i := 8) (oi := ⟨some 12, _, _, _, _, _⟩) (v := _) rfl (by kernel_rfl) (by kernel_rfl) (by decide) (fun _ _ _ h => h) (Or.inl ⟨by rfl, ?y8⟩) hS0 ?r8
  case y8 => (intro w' hSw; have s0 := HC.out w' hSw; go_simp; try rfl)
  try simp only [Act.put, List.setIfInBounds_toArray, List.set_cons_zero, List.set_cons_succ]
  refine' tail_take (i := 9) (oi := ⟨some 13, _, _, _, _, _⟩) (v := _) rfl (by kernel_rfl) (by kernel_rfl) (by decide) (fun _ _ _ h => h) (Or.inl ⟨by rfl, ?y9⟩) hS0 ?r9
  case y9 => (intro w' hSw; have s0 := HC.out w' hSw; go_simp; try rfl)
  try simp only [Act.put, List.setIfInBounds_toArray, List.set_cons_zero, List.set_cons_succ]
  refine' tail_take (i := 10) (oi := ⟨some 14, _, _, _, _, _⟩) (v := _) rfl (by kernel_rfl) (by kernel_rfl) (by decide) (fun _ _ _ h => h) (Or.inl ⟨by rfl, ?y10⟩) hS0 ?r10
  case y10 => (intro w' hSw; have s0 := HC.out w' hSw; go_simp; try rfl)
  try simp only [Act.put, List.setIfInBounds_toArray, List.set_cons_zero, List.set_cons_succ]
  refine' tail_take (i := 11) (oi := ⟨some 15, _, _, _, _, _⟩) (v := _) rfl (by kernel_rfl) (by kernel_rfl) (by decide) (fun _ _ _ h => h) (Or.inl ⟨by rfl, ?y11⟩) hS0 ?r11
  case y11 => (intro w' hSw; have s0 := HC.out w' hSw; go_simp; try rfl)
  try simp only [Act.put, List.setIfInBounds_toArray, List.set_cons_zero, List.set_cons_succ]
  refine' tail_take (i := 12) (oi := ⟨some 16, _, _, _, _, _⟩) (v := _) rfl (by kernel_rfl) (by kernel_rfl) (by decide) (fun _ _ _ h => h) (Or.inl ⟨by rfl, ?y12⟩) hS0 ?r12
  case y12 => (intro w' hSw; have s0 := HC.out w' hSw; go_simp; try rfl)
  try simp only [Act.put, List.setIfInBounds_toArray, List.set_cons_zero, List.set_cons_succ]
  refine' tail_take (i := 13) (oi := ⟨some 17, _, _, _, _, _⟩) (v := _) rfl (by kernel_rfl) (by kernel_rfl) (by decide) (fun _ _ _ h => h) (Or.inl ⟨by rfl, ?y13⟩) hS0 ?r13
  case y13 => (intro w' hSw; have s0 := HC.out w' hSw; go_simp; try rfl)
  try simp only [Act.put, List.setIfInBounds_toArray, List.set_cons_zero, List.set_cons_succ]
  refine' tail_take (i := 14) (oi := ⟨some 18, _, _, _, _, _⟩) (v := _) rfl (by kernel_rfl) (by kernel_rfl) (by decide) (fun _ _ _ h => h) (Or.inl ⟨by rfl, ?y14⟩) hS0 ?r14
  case y14 => (intro w' hSw; have s0 := HC.out w' hSw; go_simp; try rfl)
  try simp only [Act.put, List.setIfInBounds_toArray, List.set_cons_zero, List.set_cons_succ]
  have sl1 : SlF w.drew (.slice (some ⟨g, 0, none⟩) k c) (R.take k) := (H.out.row.drew.sl).front k (by omega)
  have hrow0 : OwnF w.drew 0 (.slice none 0 0) [] := OwnF.nil
  refine tail_one (i := 7) (by kernel_rfl) rfl (by decide) (fun K hK => ?_)
  refine step_append_files w.drew rfl (.const (.slice none 0 0)) (.tmp 10) 31 rfl 0 i0 Try.underlying31 hi hz0 hz1 hz2 _ _ rfl hrow0 _ (R.take k) rfl sl1 (fun f hf => H.out.one f (List.mem_of_mem_take hf)) (by have := HL.out; rw [List.length_take]; simp; omega) (Nat.zero_le _) ?_
  intro v3 W3 ho3 hgr3 hloc3
  rw [List.nil_append] at ho3
  have hS3 : Below w.drew.heap.size w.drew W3 := (Below.refl _ _).grown hgr3 (Nat.le_refl _) (fun i hi => by cases hi)
  have hf3 : ∀ i, v3.ownBlock = some i → w.drew.heap.size ≤ i := fun i hi => by
    rcases hloc3 with e | e
    · rw [e] at hi; cases hi
    · rw [e] at hi; cases hi; exact Nat.le_refl _
  have HO3 := Lib.hid ho3
  obtain ⟨A3, c3, hv3, _, _⟩ := ho3.shape
  clear sl1 hrow0 hgr3 hloc3 ho3
  refine hK.out _ _ hS3 (fun _ => ?_)
  clear hK K
  try simp only [Act.put, List.setIfInBounds_toArray, List.set_cons_zero, List.set_cons_succ]
  have sl2 : SlF W3 (.slice (if c = k + 1 then some ⟨g, 0, none⟩ else some ⟨g, (k + 1) * 3, none⟩) (R.length - (k + 1)) (c - (k + 1))) (R.drop (k + 1)) := ((H.out.row.drew.sl).below hS3).behind0 (k + 1) (by omega)
  generalize (if c = k + 1 then (some ⟨g, 0, none⟩ : Option Addr) else some ⟨g, (k + 1) * 3, none⟩) = A18 at sl2 ⊢
  refine tail_one (i := 15) (by kernel_rfl) rfl (by decide) (fun K hK => ?_)
  refine step_append_files W3 rfl (.tmp 11) (.tmp 18) 31 rfl 0 i0 Try.underlying31 hi hz0 hz1 hz2 _ _ rfl HO3.out _ (R.drop (k + 1)) rfl sl2 (fun f hf => H.out.one f (List.mem_of_mem_drop hf)) (by have := HL.out; rw [List.length_take, List.length_drop]; omega) (Nat.zero_le _) ?_
  intro v4 W4 ho4 hgr4 hloc4
  have hS4 : Below w.drew.heap.size w.drew W4 := hS3.grown hgr4 hS3.size hf3
  have hf4 : ∀ i, v4.ownBlock = some i → w.heap.size ≤ i := fun i hi => by
    rcases hloc4 with e | e
    · rw [e] at hi; exact hf3 i hi
    · rw [e] at hi; cases hi; exact hS3.size
  have HO4 := Lib.hid ho4
  obtain ⟨A4, n4, c4, hv4⟩ : ∃ A n c, v4 = .slice A n c := by obtain ⟨A, c, e, _⟩ := ho4.shape; exact ⟨A, _, c, e⟩
  clear sl2 hgr4 hloc4 ho4 HO3
  refine hK.out _ _ hS4 (fun _ => ?_)
  clear hK K
  try simp only [Act.put, List.setIfInBounds_toArray, List.set_cons_zero, List.set_cons_succ]
  refine' tail_take (i := 16) (oi := ⟨some 20, _, _, _, _, _⟩) (v := _) rfl (by kernel_rfl) (by kernel_rfl) (by decide) (fun _ _ _ h => h) (Or.inl ⟨by rfl, ?y16⟩) hS4 ?r16
  case y16 => (intro w' hSw; have s0 := HC.out w' hSw; go_simp; try rfl)
  try simp only [Act.put, List.setIfInBounds_toArray, List.set_cons_zero, List.set_cons_succ]
  refine' tail_take (i := 17) (oi := ⟨some 21, _, _, _, _, _⟩) (v := _) rfl (by kernel_rfl) (by kernel_rfl) (by decide) (fun _ _ _ h => h) (Or.inl ⟨by rfl, ?y17⟩) hS4 ?r17
  case y17 => (intro w' hSw; have s0 := HC.out w' hSw; go_simp; try rfl)
  try simp only [Act.put, List.setIfInBounds_toArray, List.set_cons_zero, List.set_cons_succ]
  have hR4 := H.out.below (HBD.out.trans (hS4.mono HBD.out.size))
  have fz := hR4.blk.frozen 0
  have fc := hR4.c0
  have hk4 : Keep (fun i => i = q) w (W4.setCell ⟨q, 0, none⟩ v4) := (Keep.of_below (S := fun i => i = q) (HBD.out.trans (hS4.mono HBD.out.size))).trans (Keep.setCell (S := fun i => i = q) _ _ _ rfl) (fun _ h => h) (fun _ _ h => h)
  have hfin : Rd (W4.setCell ⟨q, 0, none⟩ v4) q v4 S (R.take k ++ R.drop (k + 1)) := ⟨hR4.blk.set_ 0 _, HO4.out.kept (Keep.setCell (S := fun i => i = q) _ _ _ rfl) (fun i hi e => by have := hf4 i hi; have := H.out.blk.lt; omega), fun f hf => by
    have hfR : f ∈ R := by rcases List.mem_append.1 hf with h | h; exact List.mem_of_mem_take h; exact List.mem_of_mem_drop h
    exact (hR4.byt f hfR).kept (Keep.setCell (S := fun i => i = q) _ _ _ rfl) (fun i hi e => (hR4.bytq hfR i hi).1 e)⟩
  have HFIN := Lib.hid (And.intro hfin (And.intro hk4 hf4))
  rw [hv4]
  rw [hv4] at HFIN
  clear hfin hk4 hR4 hf4 HO4
  refine tail_last (by kernel_rfl) rfl (by kernel_rfl) (fun K hK => ?_)
  go_simp
  refine hK.out _ _ ?_
  clear hK K
  try simp only [Act.put, List.setIfInBounds_toArray, List.set_cons_zero, List.set_cons_succ]
  go_wp2
  go_end0
  exact ⟨rfl, _, HFIN.out⟩
end
end Go.Proofs.Ytdbkhigocjmfoaa

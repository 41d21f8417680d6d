/-
  WalNil: logs that are not there, or may not be; records that are too long.
-/
import Derived.Test.YtibifnknkphanaaGreatDoorWNilM
import Derived.Test.YtibifnknkphanaaGreatDoorWNo
import Derived.Test.YtibifnknkphanaaGreatDoorWKnown
namespace Go.Proofs.YtibifnknkphanaaGreatDoor
open Go.RowKit Go.Maps
open DskM WalM
set_option linter.unusedVariables false
set_option linter.unusedSimpArgs false
set_option maxRecDepth 100000
attribute [local go_sem] Oper.semAt_some

/-- A row of noughts. -/
def nzR (n : Nat) : Array Value := madeCells #[.int .u8 0] n
def nZ (n : Nat) : List UInt8 := List.replicate n 0
theorem nZ_length (n : Nat) : (nZ n).length = n := by unfold nZ; exact List.length_replicate
theorem nmake (n : Nat) (z : Int) (hz : z = (n : Int)) (hn : n ≤ 1000000000) (w : World) : (Instr.makeSlice 22 (.int .i64 z) (.int .i64 z)).run Tryz.prog w = .ok (.slice (some ⟨w.heap.size, 0, none⟩) n n) (w.alloc (.cells (nzR n) 5)) := by
  subst hz
  exact run_make_row' (P := Tryz.prog) 22 5 (.int .u8 0) 1 Tryz.underlying22 info_u8 rfl .i64 .i64 n (by omega) (by omega) w
theorem nzR_list (n : Nat) : (nzR n).toList = (nZ n).map bv := by
  unfold nzR nZ
  rw [toList_madeCells_one]
  simp [bv]
theorem sl_nz {w : World} {b n : Nat} (h : Blk w b 5 (nzR n)) : Sl w (.slice (some ⟨b, 0, none⟩) n n) (nZ n) := by
  have hl := nZ_length n
  refine ⟨_, n, by rw [hl], by omega, fun _ => ⟨b, 0, rfl, fun j hj => ?_⟩⟩
  rw [h.cell, Nat.zero_add, ← Array.getElem?_toList, nzR_list]
  simp [List.getElem?_eq_getElem hj, bv]
theorem sl_nz1 {w : World} {b n : Nat} (h : Sl w (.slice (some ⟨b, 0, none⟩) (n + 1) (n + 1)) (nZ (n + 1))) : Sl w (.slice (some ⟨b, 1, none⟩) n n) (nZ n) := by
  obtain ⟨A, c, e, hc, ha⟩ := h
  injection e with e1 e2 e3
  obtain ⟨b', o, e4, hx⟩ := ha (by rw [nZ_length]; omega)
  rw [← e1] at e4
  injection e4 with e4
  injection e4 with e5 e6
  subst e5 e6
  refine ⟨_, n, by rw [nZ_length], by rw [nZ_length]; omega, fun _ => ⟨b, 1, rfl, fun j hj => ?_⟩⟩
  rw [nZ_length] at hj
  have h1 := hx (j + 1) (by rw [nZ_length]; omega)
  have e7 : (nZ n)[j]'(by rw [nZ_length]; exact hj) = 0 := by unfold nZ; simp
  have e8 : (nZ (n + 1))[j + 1]'(by rw [nZ_length]; omega) = 0 := by unfold nZ; simp
  rw [e8] at h1
  rw [e7, ← h1, Nat.zero_add, Nat.add_comm 1 j]
section
variable {B : Nat} {W : World} {g p : Nat} {s : ByteArray} {most : Int} {r : Out}
theorem kn_open2 {S : Ds} {F : List Fp} (h : My B W p S F) (hB : B ≤ W.heap.size) (hld : Ld W) (hfar : Far (fun j => B ≤ j)) (s : ByteArray) (most : Int) (hok : mayOpen s most = true) (hlb : ∀ n, (bytesP F (segS s n).data.toList).length ≤ 1000000) (hw : S.wr + 100 ≤ 1000000) (hr : openL s S F = r) :
    Calls Tryz.prog 17 #[.pointer (some ⟨p, 0, none⟩), .string s, .int .i64 most] W fun e W' => ∃ g, B ≤ g ∧ e = .returned (.tuple #[.pointer (if r.1 = 0 then some ⟨g, 0, none⟩ else none), .int .i64 r.1]) ∧ Lgs B W' g p s most r ∧ Below B W W' := by
  have hm : Mx (fun j => B ≤ j ∧ j < W.heap.size) W p S F := h.mx (fun i h1 h2 => ⟨h1, h2⟩)
  obtain ⟨hF, _⟩ := mx_small hm
  refine (wopen_any hm (fun j hj => hj.2) (fun j hj => hfar j hj.1) hld s most hok hlb hF hw hr).mono ?_
  rintro e W' ⟨g, hg, rfl, D', T', h1, h2, h3, h4⟩
  exact ⟨g, by omega, rfl, ⟨D', T', h1, fun j hj => (h2 j hj).elim (fun e => e.1) (fun e => by omega), fun j hj => by have := h3 j hj; omega⟩, ⟨h4.os, h4.tape, h4.output, h4.size, fun k hk => h4.block k (by omega) (fun e => by omega)⟩⟩
theorem kn_none (h : Lgs B W g p s most r) : NoneIs W (some ⟨p, 0, none⟩) false := by
  obtain ⟨D, T, h1, h2, h3⟩ := h
  obtain ⟨m, L, e, hd, hf⟩ := h1.disk
  exact hd.noneIs
/-- The same, beside a block that is not theirs. -/
def LgsQ (q : Nat) (C : Array Value) (B : Nat) (W : World) (g p : Nat) (s : ByteArray) (most : Int) (r : Out) : Prop :=
  ∃ D T, LW D T W g p s most r.2.1 r.2.2.1 r.2.2.2 ∧ (∀ j, D j → B ≤ j) ∧ (∀ j, T j → B ≤ j) ∧ ¬ D q ∧ ¬ T q ∧ Blk W q 5 C
theorem LgsQ.lgs {q : Nat} {C : Array Value} (h : LgsQ q C B W g p s most r) : Lgs B W g p s most r := by
  obtain ⟨D, T, h1, h2, h3, _⟩ := h
  exact ⟨D, T, h1, h2, h3⟩
theorem LgsQ.blk {q : Nat} {C : Array Value} (h : LgsQ q C B W g p s most r) : Blk W q 5 C := by
  obtain ⟨D, T, _, _, _, _, _, h⟩ := h
  exact h
theorem LgsQ.below {W' : World} {q : Nat} {C : Array Value} (h : LgsQ q C B W g p s most r) (hb : Below W.heap.size W W') : LgsQ q C B W' g p s most r := by
  obtain ⟨D, T, h1, h2, h3, h4, h5, h6⟩ := h
  exact ⟨D, T, h1.below hb, h2, h3, h4, h5, h6.below hb h6.lt⟩
theorem Lgs.beside {C : Array Value} {W0 : World} (h : Lgs B W0 g p s most r) (hW : W = W0.alloc (.cells C 5)) : LgsQ W0.heap.size C B W g p s most r := by
  obtain ⟨D, T, h1, h2, h3⟩ := h
  subst hW
  exact ⟨D, T, h1.below (al_one W0 _), h2, h3, fun e => absurd (h1.dlt _ e) (by omega), fun e => absurd (h1.tlt _ e) (by omega), Blk.new W0 _ _⟩
theorem lq_of {W' : World} {q : Nat} {C : Array Value} {D T : Nat → Prop} (h2 : ∀ j, D j → B ≤ j) (h3 : ∀ j, T j → B ≤ j) (h4 : ¬ D q) (h5 : ¬ T q) (h6 : Blk W q 5 C) (hB : B ≤ W.heap.size) (h : LT D T W g p s most r.2.1 r.2.2.1 r.2.2.2 W') : LgsQ q C B W' g p s most r ∧ Below B W W' := by
  obtain ⟨D1, T1, k1, k2, k3, k4⟩ := h
  have hq := h6.lt
  exact ⟨⟨D1, T1, k1, fun j hj => (k2 j hj).elim (h2 j) (fun e => by omega), fun j hj => (k3 j hj).elim (h3 j) (fun e => by omega), fun e => (k2 q e).elim h4 (fun e => by omega), fun e => (k3 q e).elim h5 (fun e => by omega), h6.kept k4 (fun e => e.elim h4 h5)⟩, ⟨k4.os, k4.tape, k4.output, k4.size, fun k hk => k4.block k (by omega) (fun e => by
    rcases e with e | e
    · have := h2 k e; omega
    · have := h3 k e; omega)⟩⟩
theorem lq_append {q : Nat} {C : Array Value} {r0 : Out} (h : LgsQ q C B W g p s most r0) (hB : B ≤ W.heap.size) (hw : r0.2.1.wr + 2 ≤ 1000000) (hlr : r0.2.2.2.recs.length ≤ 1000001) (hsz : s.size ≤ 1000000) (vb : Value) (b : List UInt8) (hb : Sl W vb b) (hr : appendL s r0.2.1 r0.2.2.1 r0.2.2.2 b = r) :
    Calls Tryz.prog 20 #[.pointer (some ⟨g, 0, none⟩), vb] W fun e W' => e = .returned (.int .i64 r.1) ∧ LgsQ q C B W' g p s most r ∧ Below B W W' := by
  obtain ⟨D, T, h1, h2, h3, h4, h5, h6⟩ := h
  refine (wappend_any h1 hw hlr hsz vb b hb hr).mono ?_
  rintro e W' ⟨rfl, hl⟩
  exact ⟨rfl, lq_of h2 h3 h4 h5 h6 hB hl⟩
theorem lq_sync {q : Nat} {C : Array Value} {r0 : Out} (h : LgsQ q C B W g p s most r0) (hB : B ≤ W.heap.size) (hw : r0.2.1.wr + 2 ≤ 1000000) (hlr : r0.2.2.2.recs.length ≤ 1000001) (hsz : s.size ≤ 1000000) (hr : syncL s r0.2.1 r0.2.2.1 r0.2.2.2 = r) :
    Calls Tryz.prog 21 #[.pointer (some ⟨g, 0, none⟩)] W fun e W' => e = .returned (.int .i64 r.1) ∧ LgsQ q C B W' g p s most r ∧ Below B W W' := by
  obtain ⟨D, T, h1, h2, h3, h4, h5, h6⟩ := h
  refine (wsync_any h1 hw hlr hsz hr).mono ?_
  rintro e W' ⟨rfl, hl⟩
  exact ⟨rfl, lq_of h2 h3 h4 h5 h6 hB hl⟩
theorem lq_turn {q : Nat} {C : Array Value} {r0 : Out} (h : LgsQ q C B W g p s most r0) (hB : B ≤ W.heap.size) (hw : r0.2.1.wr + 5 ≤ 1000000) (hlr : r0.2.2.2.recs.length ≤ 1000001) (hsz : s.size ≤ 1000000) (vb : Value) (b : List UInt8) (hb : Sl W vb b) (hr : turnL s r0.2.1 r0.2.2.1 r0.2.2.2 b = r) :
    Calls Tryz.prog 22 #[.pointer (some ⟨g, 0, none⟩), vb] W fun e W' => e = .returned (.int .i64 r.1) ∧ LgsQ q C B W' g p s most r ∧ Below B W W' := by
  obtain ⟨D, T, h1, h2, h3, h4, h5, h6⟩ := h
  refine (wturn_any h1 hw hlr hsz vb b hb hr).mono ?_
  rintro e W' ⟨rfl, hl⟩
  exact ⟨rfl, lq_of h2 h3 h4 h5 h6 hB hl⟩
theorem lq_fuse {q : Nat} {C : Array Value} (h : LgsQ q C B W g p s most r) (hB : B ≤ W.heap.size) (n : Int) (h1 : -9223372036854775808 ≤ n) (h2 : n ≤ 9223372036854775807) :
    Calls Tryz.prog 18 #[.pointer (some ⟨p, 0, none⟩), .int .i64 n] W fun e W' => e = .returned (.tuple #[]) ∧ LgsQ q C B W' g p s most (0, fuseS r.2.1 n, r.2.2.1, r.2.2.2) ∧ Below B W W' := by
  obtain ⟨D, T, hl, hD, hT, h4, h5, h6⟩ := h
  obtain ⟨m, L, e, hd, hf⟩ := hl.disk
  have hpD : D p := hf p (.inl rfl)
  refine (fuse_any hd n h1 h2).mono ?_
  rintro e' W' ⟨rfl, hd', hk, hz⟩
  refine ⟨rfl, ⟨D, T, ⟨⟨m, L, e, hd', hf⟩, hl.log.kept (fun k cs hx hb => ⟨hx, hb.kept hk (fun e => hx.1 (e ▸ hpD))⟩) (fun k t cs ht hb => ⟨ht, hb.kept hk (fun e => hl.sep p hpD (e ▸ ht))⟩), hl.sep, fun j hj => by rw [hz]; exact hl.dlt j hj, fun j hj => by rw [hz]; exact hl.tlt j hj, hl.ld.keep hk (fun i e => by subst e; exact hl.fd i hpD), hl.fd, hl.ft, hl.nb⟩, hD, hT, h4, h5, h6.kept hk (fun e => h4 (e ▸ hpD))⟩, Keep.below (Below.refl B W) hk hB (fun i e => by subst e; exact hD i hpD)⟩
end
theorem nbad1 : mayOpen ⟨#[97, 98, 99, 100, 101, 102, 103, 104, 105, 106, 107, 108, 109, 110, 111, 112, 113]⟩ 1 = false := by kernel_rfl
theorem nbad2 : mayOpen nmA 0 = false := by kernel_rfl
theorem nok1 : mayOpen nmA 1 = true := by kernel_rfl
theorem nbytes (n : Nat) : (bytesP [] (segS nmA n).data.toList).length ≤ 1000000 := by
  unfold bytesP findP
  split <;> simp
set_option maxHeartbeats 8000000 in
theorem walNil_any (w : World) (hld : Ld w) : Calls Tryz.prog 5 #[] w fun e w' => e = .returned (.bool true) ∧ Below w.heap.size w w' := by
  have hmk := fun (w : World) => nmake 1048577 1048577 rfl (by omega) w
  have hfar : Far (fun j => w.heap.size ≤ j) := hld.far (fun i hi => hi)
  have HLD := Lib.hid (And.intro hld hfar)
  have HNEW := Lib.hid (show Calls Tryz.prog 16 #[.int .i64 4194304] w _ from my_new 4194304 w (by omega) (by omega))
  clear hld hfar
  go_enter Tryz.func5, Tryz.ntmps5
  go_wp2_with fail
  refine HNEW.out.mono ?_
  rintro e w1 ⟨p, rfl, hm, hb1⟩
  have HOP := Lib.hid (kn_open2 hm hb1.size (HLD.out.1.below hb1) HLD.out.2 nmA 1 nok1 nbytes (by show 0 + 100 ≤ 1000000; omega) n1_is)
  have HB1 := Lib.hid hb1
  clear hm hb1 HNEW
  go_wp2_with fail
  refine HOP.out.mono ?_
  rintro e w2 ⟨g, hg, rfl, hl2, hb2⟩
  rw [show nO1.1 = 0 from rfl, if_pos rfl]
  have HLx0 := Lib.hid hl2
  have HBx0 := Lib.hid (show Below w.heap.size w w2 from HB1.out.trans hb2)
  clear hl2 hb2 hg HOP HB1
  go_wp2_with fail
  refine (wopen_nd _ (NoneIs.nil _) nmA 1).mono ?_
  rintro e w3 ⟨rfl, hb⟩
  have HLx1 := Lib.hid (HLx0.out.below hb)
  have HBx1 := Lib.hid (HBx0.out.trans (hb.mono HBx0.out.size))
  clear hb HLx0 HBx0
  obtain ⟨wz, hwz⟩ : ∃ wz, wz = w3.alloc (.cells #[.int .i64 0, .map none, .int .i64 0, .bool false, .int .i64 0] 54) := ⟨_, rfl⟩
  have hbz : Below w3.heap.size w3 wz := by rw [hwz]; exact al_one _ _
  have hnz : NoneIs wz (some ⟨w3.heap.size, 0, none⟩) true := Nd.noneIs (.inr ⟨_, rfl, by rw [hwz, (Blk.new w3 _ _).cell]; rfl⟩)
  have HWZ := Lib.hid hwz
  have HOZ := Lib.hid (wopen_nd wz hnz nmA 1)
  have HBZ := Lib.hid hbz
  clear hwz hbz hnz
  go_wp2_with fail
  rw [← HWZ.out]
  refine HOZ.out.mono ?_
  rintro e w4 ⟨rfl, hb⟩
  have hb2 : Below w3.heap.size w3 w4 := HBZ.out.trans (hb.mono HBZ.out.size)
  have HLx2 := Lib.hid (HLx1.out.below hb2)
  have HBx2 := Lib.hid (HBx1.out.trans (hb2.mono HBx1.out.size))
  clear hb hb2 HLx1 HBx1 HWZ HOZ HBZ
  go_wp2_with fail
  refine (wopen_bad _ (kn_none HLx2.out) _ 1 nbad1).mono ?_
  rintro e w5 ⟨rfl, hb⟩
  have HLx3 := Lib.hid (HLx2.out.below hb)
  have HBx3 := Lib.hid (HBx2.out.trans (hb.mono HBx2.out.size))
  clear hb HLx2 HBx2
  go_wp2_with fail
  refine (wopen_bad _ (kn_none HLx3.out) nmA 0 nbad2).mono ?_
  rintro e w6 ⟨rfl, hb⟩
  have HLx4 := Lib.hid (HLx3.out.below hb)
  have HBx4 := Lib.hid (HBx3.out.trans (hb.mono HBx3.out.size))
  clear hb HLx3 HBx3
  obtain ⟨wl, hwl⟩ : ∃ wl, wl = w6.alloc (.cells (nzR 1048577) 5) := ⟨_, rfl⟩
  have hbl : Below w6.heap.size w6 wl := by rw [hwl]; exact al_one _ _
  have hql := HLx4.out.beside hwl
  have hmk' := hmk w6
  rw [← hwl] at hmk'
  obtain ⟨lb, hlb⟩ : ∃ lb, lb = w6.heap.size := ⟨_, rfl⟩
  rw [← hlb] at hql hmk'
  have HLl := Lib.hid hql
  have HBl := Lib.hid (HBx4.out.trans (hbl.mono HBx4.out.size))
  have HRL := Lib.hid (record_long _ _ wl (sl_nz hql.blk) (by rw [nZ_length]; omega))
  clear hmk hwl hbl hql HLx4 HBx4 hlb
  go_wp2_with fail
  refine HRL.out.mono ?_
  rintro e wx ⟨rfl, hwx⟩
  rw [hwx]
  clear hwx wx HRL hmk'
  go_wp2_with fail
  refine (lnum_any 0 _).mono ?_
  rintro e wx ⟨rfl, hwx⟩
  rw [hwx]
  clear hwx wx
  go_wp2_with fail
  refine (lnum_any 2 _).mono ?_
  rintro e wx ⟨rfl, hwx⟩
  rw [hwx]
  clear hwx wx
  go_wp2_with fail
  refine (lnum_any 2 _).mono ?_
  rintro e wx ⟨rfl, hwx⟩
  rw [hwx]
  clear hwx wx
  go_wp2_with fail
  refine (lnum_any 2 _).mono ?_
  rintro e wx ⟨rfl, hwx⟩
  rw [hwx]
  clear hwx wx
  go_wp2_with fail
  refine (lnum_any 2 _).mono ?_
  rintro e wx ⟨rfl, hwx⟩
  rw [hwx]
  clear hwx wx
  go_wp2_with fail
  refine (lnum_any 3 _).mono ?_
  rintro e wx ⟨rfl, hwx⟩
  rw [hwx]
  clear hwx wx
  go_wp2_with fail
  refine (lq_append HLl.out HBl.out.size (by show 2 + 2 ≤ 1000000; omega) (by show 0 ≤ 1000001; omega) (by show 1 ≤ 1000000; omega) _ _ (sl_nz HLl.out.blk) (long_a (by rw [nZ_length]; omega))).mono ?_
  rintro e w7 ⟨rfl, hl, hb⟩
  have HLx5 := Lib.hid hl
  have HBx5 := Lib.hid (HBl.out.trans hb)
  clear hl hb HLl HBl
  go_wp2_with fail
  refine (lnum_any 3 _).mono ?_
  rintro e wx ⟨rfl, hwx⟩
  rw [hwx]
  clear hwx wx
  go_wp2_with fail
  refine (lq_turn HLx5.out HBx5.out.size (by show 2 + 5 ≤ 1000000; omega) (by show 0 ≤ 1000001; omega) (by show 1 ≤ 1000000; omega) _ _ (sl_nz HLx5.out.blk) (long_t (by rw [nZ_length]; omega))).mono ?_
  rintro e w8 ⟨rfl, hl, hb⟩
  have HLx6 := Lib.hid hl
  have HBx6 := Lib.hid (HBx5.out.trans hb)
  clear hl hb HLx5 HBx5
  go_wp2_with fail
  refine (lnum_any 3 _).mono ?_
  rintro e wx ⟨rfl, hwx⟩
  rw [hwx]
  clear hwx wx
  go_wp2_with fail
  refine (lq_append HLx6.out HBx6.out.size (by show 2 + 2 ≤ 1000000; omega) (by show 0 ≤ 1000001; omega) (by show 1 ≤ 1000000; omega) _ _ (sl_nz1 (n := 1048576) (sl_nz HLx6.out.blk)) (n2_is _ (nZ_length _))).mono ?_
  rintro e w9 ⟨rfl, hl, hb⟩
  rw [show (nO2 (recP (nZ 1048576))).1 = 0 from rfl]
  have HLx7 := Lib.hid hl
  have HBx7 := Lib.hid (HBx6.out.trans hb)
  clear hl hb HLx6 HBx6
  go_wp2_with fail
  refine (lnum_any 0 _).mono ?_
  rintro e wx ⟨rfl, hwx⟩
  rw [hwx]
  clear hwx wx
  go_wp2_with fail
  refine (lq_turn HLx7.out HBx7.out.size (by show 3 + 5 ≤ 1000000; omega) (by show 1 ≤ 1000001; omega) (by show 1 ≤ 1000000; omega) _ _ (sl_nz1 (n := 1048576) (sl_nz HLx7.out.blk)) (n5_is _ _ (nZ_length _) (by rw [recP_length, nZ_length]))).mono ?_
  rintro e w10 ⟨rfl, hl, hb⟩
  rw [show (nO5 (recP (nZ 1048576))).1 = 0 from rfl]
  have HLx8 := Lib.hid hl
  have HBx8 := Lib.hid (HBx7.out.trans hb)
  clear hl hb HLx7 HBx7
  go_wp2_with fail
  refine (lnum_any 0 _).mono ?_
  rintro e wx ⟨rfl, hwx⟩
  rw [hwx]
  clear hwx wx
  go_wp2_with fail
  refine (kn_size HLx8.out.lgs).mono ?_
  rintro e wx ⟨rfl, hwx⟩
  rw [hwx]
  rw [show (nO5 (recP (nZ 1048576))).2.2.2.size = 1048584 from rfl]
  clear hwx wx
  go_wp2_with fail
  refine (kn_big HLx8.out.lgs).mono ?_
  rintro e w11 ⟨rfl, hb⟩
  rw [show (nO5 (recP (nZ 1048576))).2.2.2.size = 1048584 from rfl, show decide ((1 : Int) < 1048584) = true from rfl]
  have HLx9 := Lib.hid (HLx8.out.below hb)
  have HBx9 := Lib.hid (HBx8.out.trans (hb.mono HBx8.out.size))
  clear hb HLx8 HBx8
  go_wp2_with fail
  refine (lq_fuse HLx9.out HBx9.out.size 0 (by omega) (by omega)).mono ?_
  rintro e w12 ⟨rfl, hl, hb⟩
  have HLx10 := Lib.hid hl
  have HBx10 := Lib.hid (HBx9.out.trans hb)
  clear hl hb HLx9 HBx9
  go_wp2_with fail
  refine (lq_sync HLx10.out HBx10.out.size (by show 6 + 2 ≤ 1000000; omega) (by show 0 ≤ 1000001; omega) (by show 1 ≤ 1000000; omega) (n7_is _)).mono ?_
  rintro e w13 ⟨rfl, hl, hb⟩
  rw [show (nO7 (recP (nZ 1048576)) 8).1 = 8 from rfl]
  have HLx11 := Lib.hid hl
  have HBx11 := Lib.hid (HBx10.out.trans hb)
  clear hl hb HLx10 HBx10
  go_wp2_with fail
  refine (lnum_any 8 _).mono ?_
  rintro e wx ⟨rfl, hwx⟩
  rw [hwx]
  clear hwx wx
  go_wp2_with fail
  refine (lq_sync HLx11.out HBx11.out.size (by show 7 + 2 ≤ 1000000; omega) (by show 0 ≤ 1000001; omega) (by show 1 ≤ 1000000; omega) (n8_is _ _)).mono ?_
  rintro e w14 ⟨rfl, hl, hb⟩
  rw [show (nO7 (recP (nZ 1048576)) 7).1 = 7 from rfl]
  have HLx12 := Lib.hid hl
  have HBx12 := Lib.hid (HBx11.out.trans hb)
  clear hl hb HLx11 HBx11
  go_wp2_with fail
  refine (lnum_any 7 _).mono ?_
  rintro e wx ⟨rfl, hwx⟩
  rw [hwx]
  clear hwx wx
  go_wp2_with fail
  refine (lq_append HLx12.out HBx12.out.size (by show 7 + 2 ≤ 1000000; omega) (by show 0 ≤ 1000001; omega) (by show 1 ≤ 1000000; omega) _ _ (Sl.nil none 0) (n9_is _ _)).mono ?_
  rintro e w15 ⟨rfl, hl, hb⟩
  rw [show (nO7 (recP (nZ 1048576)) 7).1 = 7 from rfl]
  have HLx13 := Lib.hid hl
  have HBx13 := Lib.hid (HBx12.out.trans hb)
  clear hl hb HLx12 HBx12
  go_wp2_with fail
  refine (lnum_any 7 _).mono ?_
  rintro e wx ⟨rfl, hwx⟩
  rw [hwx]
  clear hwx wx
  go_wp2_with fail
  refine (lq_append HLx13.out HBx13.out.size (by show 7 + 2 ≤ 1000000; omega) (by show 0 ≤ 1000001; omega) (by show 1 ≤ 1000000; omega) _ _ (sl_nz HLx13.out.blk) (long_a (by rw [nZ_length]; omega))).mono ?_
  rintro e w16 ⟨rfl, hl, hb⟩
  have HLx14 := Lib.hid hl
  have HBx14 := Lib.hid (HBx13.out.trans hb)
  clear hl hb HLx13 HBx13
  go_wp2_with fail
  refine (lnum_any 3 _).mono ?_
  rintro e wx ⟨rfl, hwx⟩
  rw [hwx]
  clear hwx wx
  go_wp2_with fail
  refine (lq_turn HLx14.out HBx14.out.size (by show 7 + 5 ≤ 1000000; omega) (by show 0 ≤ 1000001; omega) (by show 1 ≤ 1000000; omega) _ _ (Sl.nil none 0) (n10_is _ 3)).mono ?_
  rintro e w17 ⟨rfl, hl, hb⟩
  rw [show (nO7 (recP (nZ 1048576)) 7).1 = 7 from rfl]
  have HLx15 := Lib.hid hl
  have HBx15 := Lib.hid (HBx14.out.trans hb)
  clear hl hb HLx14 HBx14
  go_wp2_with fail
  refine (lnum_any 7 _).mono ?_
  rintro e wx ⟨rfl, hwx⟩
  rw [hwx]
  clear hwx wx
  go_wp2_with fail
  refine (wnothing_any (NoLog.nil _)).mono ?_
  rintro e w18 ⟨rfl, hb⟩
  have HLx16 := Lib.hid (HLx15.out.below hb)
  have HBx16 := Lib.hid (HBx15.out.trans (hb.mono HBx15.out.size))
  clear hb HLx15 HBx15
  obtain ⟨wz, hwz⟩ : ∃ wz, wz = w18.alloc (.cells #[.pointer none, .string ⟨#[]⟩, .int .i64 0, .int .i64 0, .slice none 0 0, .slice none 0 0, .int .i64 0, .int .i64 0, .bool false] 60) := ⟨_, rfl⟩
  have hbz : Below w18.heap.size w18 wz := by rw [hwz]; exact al_one _ _
  have hnz : NoLog wz (some ⟨w18.heap.size, 0, none⟩) := NoLog.zero (by rw [hwz]; exact Blk.new w18 _ _) rfl
  have HWZ := Lib.hid hwz
  have HOZ := Lib.hid (wnothing_any hnz)
  have HBZ := Lib.hid hbz
  clear hwz hbz hnz
  go_wp2_with fail
  rw [← HWZ.out]
  refine HOZ.out.mono ?_
  rintro e wk ⟨rfl, hb⟩
  have hb2 : Below w18.heap.size w18 wk := HBZ.out.trans (hb.mono HBZ.out.size)
  have HBk := Lib.hid (HBx16.out.trans (hb2.mono HBx16.out.size))
  clear hb hb2 HLx16 HBx16 HWZ HOZ HBZ
  go_wp2_with fail
  refine (known_any wk (HLD.out.1.below HBk.out)).mono ?_
  rintro e wf ⟨rfl, hb⟩
  have HBf := Lib.hid (HBk.out.trans (hb.mono HBk.out.size))
  clear hb HBk
  go_wp2
  go_ret
  exact ⟨rfl, HBf.out⟩
end Go.Proofs.YtibifnknkphanaaGreatDoor

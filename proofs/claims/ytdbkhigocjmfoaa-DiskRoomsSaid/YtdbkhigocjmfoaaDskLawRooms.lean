/-
  The walk of DiskRooms.
-/
import Derived.Test.YtdbkhigocjmfoaaDskRoomP
import Derived.Sort.CutIn
namespace Go.Proofs.Ytdbkhigocjmfoaa
open Go.RowKit Go.Maps Go.Shelf
open DskM
set_option linter.unusedVariables false
set_option linter.unusedSimpArgs false
set_option maxRecDepth 100000
attribute [local go_sem] Oper.semAt_some


/-- Where the law's disk may stand: behind the result's block, not in the variable's, not in a mark's. -/
def AD (w : World) (b5 : Nat) (Ds : List Nat) (i : Nat) : Prop := w.heap.size + 1 ≤ i ∧ i ≠ b5 ∧ i ∉ Ds
theorem less_before : ∀ (x y : List UInt8), Op.bytesLess x y = bytesBefore x y
  | [], [] => rfl
  | [], _ :: _ => rfl
  | _ :: _, [] => rfl
  | a :: x, b :: y => by
    show (a < b || (a == b && Op.bytesLess x y) : Bool) = (a < b || (a == b && bytesBefore x y) : Bool)
    rw [less_before x y]
theorem undef_bool {b : Bool} : ¬ (some undef = some (Value.bool b)) := by intro h; cases h
/-- What holds between two steps. -/
def RmR (w : World) (cn b5 : Nat) (L : List St) (dd : List Deferred) (u7 : Value) (wr : World) : Prop :=
  ∃ (i p : Nat) (S : Ds) (F : List Fp) (Ds : List Nat), u7 = .int .i64 (i : Int) ∧ dd = Ds.map mark ∧ i ≤ L.length ∧ Mx (AD w b5 Ds) wr p S F ∧ S.cap = cn ∧ S.wr ≤ i ∧ Blk wr b5 23 #[.pointer (some ⟨p, 0, none⟩)] ∧ Blk wr w.heap.size 4 #[.bool false] ∧ Below w.heap.size w wr ∧ Marks (w.heap.size + 1) wr Ds
def RmI (w : World) (cn b5 : Nat) (A0 : Option Addr) (c0 : Nat) (L : List St) (a : Act) (wr : World) : Prop :=
  ∃ (dd : List Deferred) (u7 u8 u9 u10 u11 u12 u13 u14 u15 u16 u17 u18 u19 u20 u21 u22 u23 u24 u25 u26 u27 u28 u29 u30 u31 u32 u33 u34 u35 u36 u37 u38 u39 u40 u41 u42 u43 u44 u45 u46 u47 u48 u49 u50 u51 u52 u53 u54 u55 u56 u57 u58 u59 u60 u61 u62 u63 u64 u65 u66 u67 u68 u69 u70 u71 u72 u73 u74 u75 u76 u77 u78 u79 u80 u81 u82 u83 u84 u85 u86 u87 u88 u89 u90 u91 u92 u93 u94 u95 u96 u97 u98 u99 u100 u101 u102 u103 u104 u105 u106 u107 u108 u109 u110 u111 u112 u113 u114 u115 u116 u117 u118 u119 u120 u121 u122 u123 u124 u125 u126 u127 u128 u129 u130 u131 u132 u133 u134 u135 u136 u137 u138 u139 u140 u141 u142 u143 u144 u145 u146 u147 u148 u149 u150 u151 u152 u153 u154 u155 u156 u157 u158 u159 u160 u161 u162 u163 u164 u165 u166 u167 u168 u169 u170 u171 u172 u173 u174 u175 u176 u177 u178 u179 u180 u181 u182 u183 u184 u185 u186 u187 u188 u189 : Value), RmR w cn b5 L dd u7 wr ∧
    a = { tmps := #[.int .i64 (cn : Int), .slice A0 L.length c0, undef, undef, .pointer (some ⟨w.heap.size, 0, none⟩), .pointer (some ⟨b5, 0, none⟩), .int .i64 0, u7, u8, u9, u10, u11, u12, u13, u14, u15, u16, u17, u18, u19, u20, u21, u22, u23, u24, u25, u26, u27, u28, u29, u30, u31, u32, u33, u34, u35, u36, u37, u38, u39, u40, u41, u42, u43, u44, u45, u46, u47, u48, u49, u50, u51, u52, u53, u54, u55, u56, u57, u58, u59, u60, u61, u62, u63, u64, u65, u66, u67, u68, u69, u70, u71, u72, u73, u74, u75, u76, u77, u78, u79, u80, u81, u82, u83, u84, u85, u86, u87, u88, u89, u90, u91, u92, u93, u94, u95, u96, u97, u98, u99, u100, u101, u102, u103, u104, u105, u106, u107, u108, u109, u110, u111, u112, u113, u114, u115, u116, u117, u118, u119, u120, u121, u122, u123, u124, u125, u126, u127, u128, u129, u130, u131, u132, u133, u134, u135, u136, u137, u138, u139, u140, u141, u142, u143, u144, u145, u146, u147, u148, u149, u150, u151, u152, u153, u154, u155, u156, u157, u158, u159, u160, u161, u162, u163, u164, u165, u166, u167, u168, u169, u170, u171, u172, u173, u174, u175, u176, u177, u178, u179, u180, u181, u182, u183, u184, u185, u186, u187, u188, u189], defers := dd }
def RmJ (w0 : World) (p m b5 b13 b15 hi : Nat) (S : Ds) (L : List Fo) (Ds : List Nat) (pre : List (EntL L)) (W : World) : Prop :=
  Below w0.heap.size w0 W ∧ hi ≤ W.heap.size ∧ Blk W b5 23 #[.pointer (some ⟨p, 0, none⟩)] ∧ Blk W w0.heap.size 4 #[.bool false] ∧ Blk W b13 3 #[.int .i64 (sumZ pre : Int)] ∧
    Blk W b15 9 #[.string ⟨(lastN pre).toArray⟩] ∧ Dk W p m S L ∧ Marks (w0.heap.size + 1) W Ds ∧ sumZ pre ≤ pre.length * 16777216
def RmX (L : List Fo) (c : Code) (pre : List (EntL L)) (W : World) : Prop := c = .ret ∧ ¬ pre = (allE L).take pre.length
theorem RmJ.own {w0 : World} {p m b5 b13 b15 hi : Nat} {S : Ds} {L : List Fo} {Ds : List Nat} (h0 : w0.heap.size ≤ hi) (h1 : m < hi) (h2 : ∀ D ∈ Ds, D < hi) : OwnFrom hi (RmJ w0 p m b5 b13 b15 hi S L Ds) := by
  rintro pre X Y row ⟨hb, hs, c1, c2, c3, c4, d1, hM, hz⟩ hg hr
  exact ⟨hb.grown hg hb.size (fun k e => by have := (hr k e).1; omega), Nat.le_trans hs hg.size, c1.own hg (fun r e => hr r e), c2.own hg (fun r e => hr r e), c3.own hg (fun r e => hr r e), c4.own hg (fun r e => hr r e), d1.own hg (fun r e => hr r e) h1,
    hM.kept (fun D hD => hg.block D (hM.lt D hD) (fun e => by have := (hr D e.symm).1; have := h2 D hD; omega)), hz⟩
set_option maxHeartbeats 32000000 in
theorem lawRooms (c : Int) (v1 : Value) (L : List St) (w : World) (hs : Sts w v1 L) :
    Calls Try.prog 6 #[.int .i64 c, v1] w fun e w' => e = .returned (.bool true) ∧ Below w.heap.size w w' := by
  have hfo : Try.prog.follows .mixedOrders = true := by kernel_rfl
  have hfn := func_nil
  have hb0 := al1 w (.cells #[.bool false] 4)
  have hR0 := Blk.new w 4 #[.bool false]
  obtain ⟨w0, hw0⟩ : ∃ w0, w0 = w.alloc (.cells #[.bool false] 4) := ⟨_, rfl⟩
  rw [← hw0] at hb0 hR0
  have HS := Lib.hid hs
  have HW0 := Lib.hid hw0
  have HB0 := Lib.hid hb0
  have HR0 := Lib.hid hR0
  clear hs hw0 hb0 hR0
  refine (callsIn_wide (n := 8)).1 ?_
  refine callsIn_of_wp_marks Try.func6 rfl trivial ?_ rfl
  simp only [Try.ntmps6, List.size_toArray, List.length_cons, List.length_nil, Nat.reduceAdd, Nat.reduceSub, Array.replicate_succ, Array.replicate_zero, List.push_toArray, List.append_toArray, List.nil_append, List.cons_append]
  by_cases hc1 : c < 1
  · have hd1 : decide (c < 1) = true := decide_eq_true hc1
    obtain ⟨w2, hw2⟩ : ∃ w2, w2 = w0 := ⟨_, rfl⟩
    have HB2 := Lib.hid (show Below w.heap.size w w2 from hw2 ▸ HB0.out)
    have HR2 := Lib.hid (show Blk w2 w.heap.size 4 #[.bool false] from hw2 ▸ HR0.out)
    rw [HW0.out] at hw2
    gi_wp2_with fail
    refine ⟨trivial, ?_⟩
    gi_wp2_with fail
    rw [← hw2]
    refine ⟨trivial, (callsIn_wide.2 (known_law _)).mono ?_⟩
    rintro e wk ⟨rfl, hbk⟩
    have HBK := Lib.hid (HB2.out.trans (hbk.mono HB2.out.size))
    have hRk := HR2.out.below hbk HR2.out.lt
    have f4 := hRk.frozen 0
    have q4 : wk.cell? ⟨w.heap.size, 0, none⟩ = some (.bool false) := by rw [hRk.cell]; rfl
    have hRt : Blk (wk.setCell ⟨w.heap.size, 0, none⟩ (.bool true)) w.heap.size 4 #[.bool true] := hRk.set_ 0 _
    have HT2 := Lib.hid (And.intro (show (wk.setCell ⟨w.heap.size, 0, none⟩ (.bool true)).cell? ⟨w.heap.size, 0, none⟩ = some (.bool true) by rw [hRt.cell]; rfl) (HBK.out.setCell (p := ⟨w.heap.size, 0, none⟩) (Nat.le_refl _) (.bool true)))
    clear hRt hRk hbk
    gi_wp2
    refine ⟨.bool true, ?_, rfl, HT2.out.2⟩
    have hc5 := HT2.out.1
    simp [results, Try.f6, go_sem, hc5]
  by_cases hc2 : 16777216 < c
  · have hd1 : decide (c < 1) = false := decide_eq_false hc1
    have hd2 : decide (16777216 < c) = true := decide_eq_true hc2
    obtain ⟨w2, hw2⟩ : ∃ w2, w2 = w0 := ⟨_, rfl⟩
    have HB2 := Lib.hid (show Below w.heap.size w w2 from hw2 ▸ HB0.out)
    have HR2 := Lib.hid (show Blk w2 w.heap.size 4 #[.bool false] from hw2 ▸ HR0.out)
    rw [HW0.out] at hw2
    gi_wp2_with fail
    refine ⟨trivial, ?_⟩
    gi_wp2_with fail
    rw [← hw2]
    refine ⟨trivial, (callsIn_wide.2 (known_law _)).mono ?_⟩
    rintro e wk ⟨rfl, hbk⟩
    have HBK := Lib.hid (HB2.out.trans (hbk.mono HB2.out.size))
    have hRk := HR2.out.below hbk HR2.out.lt
    have f4 := hRk.frozen 0
    have q4 : wk.cell? ⟨w.heap.size, 0, none⟩ = some (.bool false) := by rw [hRk.cell]; rfl
    have hRt : Blk (wk.setCell ⟨w.heap.size, 0, none⟩ (.bool true)) w.heap.size 4 #[.bool true] := hRk.set_ 0 _
    have HT2 := Lib.hid (And.intro (show (wk.setCell ⟨w.heap.size, 0, none⟩ (.bool true)).cell? ⟨w.heap.size, 0, none⟩ = some (.bool true) by rw [hRt.cell]; rfl) (HBK.out.setCell (p := ⟨w.heap.size, 0, none⟩) (Nat.le_refl _) (.bool true)))
    clear hRt hRk hbk
    gi_wp2
    refine ⟨.bool true, ?_, rfl, HT2.out.2⟩
    have hc5 := HT2.out.1
    simp [results, Try.f6, go_sem, hc5]
  have hd1 : decide (c < 1) = false := decide_eq_false hc1
  have hd2 : decide (16777216 < c) = false := decide_eq_false hc2
  obtain ⟨cn, rfl⟩ : ∃ cn : Nat, c = (cn : Int) := ⟨c.toNat, by omega⟩
  have HCN := Lib.hid (show 1 ≤ cn ∧ cn ≤ 16777216 by omega)
  clear hc1 hc2
  gi_wp2_with fail
  rw [← HW0.out]
  refine ⟨trivial, (callsIn_wide.2 (much_any v1 L 100 (by omega) w0 (HS.out.below HB0.out))).mono ?_⟩
  rintro e w2 ⟨r, rfl, hb2, hfew⟩
  have HB2 := Lib.hid (HB0.out.trans (hb2.mono HB0.out.size))
  have HR2 := Lib.hid (HR0.out.below hb2 HR0.out.lt)
  have HFEW := Lib.hid hfew
  clear hb2 hfew
  cases r with
  | true =>
    gi_wp2_with fail
    refine ⟨trivial, (callsIn_wide.2 (known_law _)).mono ?_⟩
    rintro e wk ⟨rfl, hbk⟩
    have HBK := Lib.hid (HB2.out.trans (hbk.mono HB2.out.size))
    have hRk := HR2.out.below hbk HR2.out.lt
    have f4 := hRk.frozen 0
    have q4 : wk.cell? ⟨w.heap.size, 0, none⟩ = some (.bool false) := by rw [hRk.cell]; rfl
    have hRt : Blk (wk.setCell ⟨w.heap.size, 0, none⟩ (.bool true)) w.heap.size 4 #[.bool true] := hRk.set_ 0 _
    have HT2 := Lib.hid (And.intro (show (wk.setCell ⟨w.heap.size, 0, none⟩ (.bool true)).cell? ⟨w.heap.size, 0, none⟩ = some (.bool true) by rw [hRt.cell]; rfl) (HBK.out.setCell (p := ⟨w.heap.size, 0, none⟩) (Nat.le_refl _) (.bool true)))
    clear hRt hRk hbk
    gi_wp2
    refine ⟨.bool true, ?_, rfl, HT2.out.2⟩
    have hc5 := HT2.out.1
    simp [results, Try.f6, go_sem, hc5]
  | false =>
    have HL := Lib.hid (HFEW.out rfl)
    gi_wp2_with fail
    refine ⟨trivial, (callsIn_wide.2 (my_new cn w2 HCN.out.1 HCN.out.2)).mono ?_⟩
    rintro e w3 ⟨p, rfl, hm3, hb3⟩
    have HM3 := Lib.hid hm3
    have HB23 := Lib.hid hb3
    clear hm3 hb3 HFEW hd1 hd2
    obtain ⟨A0, c0, hv0⟩ : ∃ A0 c0, v1 = .slice A0 L.length c0 := by obtain ⟨A, c, e, _⟩ := HS.out; exact ⟨A, c, e⟩
    subst hv0
    obtain ⟨b5, hb5⟩ : ∃ b5, b5 = w3.heap.size := ⟨_, rfl⟩
    obtain ⟨w4, hw4⟩ : ∃ w4, w4 = w3.alloc (.cells #[.pointer (some ⟨p, 0, none⟩)] 23) := ⟨_, rfl⟩
    have hlt2 := HR2.out.lt
    have hz23 := HB23.out.size
    have hmx : Mx (AD w b5 []) w4 p ⟨cn, -1, false, 0⟩ [] := by
      rw [hw4]; exact (HM3.out.mx (fun i h1 h2 => ⟨by omega, by omega, by simp⟩)).below (al1 w3 _)
    have hB4 : Blk w4 b5 23 #[.pointer (some ⟨p, 0, none⟩)] := by rw [hw4, hb5]; exact Blk.new w3 _ _
    have hR4 : Blk w4 w.heap.size 4 #[.bool false] := by rw [hw4]; exact (HR2.out.below HB23.out HR2.out.lt).alloc _
    have hb4 : Below w.heap.size w w4 := by rw [hw4]; exact (HB2.out.trans (HB23.out.mono HB2.out.size)).alloc (Nat.le_trans HB2.out.size hz23) _
    have HLB := Lib.hid (show w.heap.size + 1 ≤ b5 by omega)
    have q5 : w4.cell? ⟨b5, 0, none⟩ = some (.pointer (some ⟨p, 0, none⟩)) := by rw [hB4.cell]; rfl
    have HMX := Lib.hid hmx
    have HB4 := Lib.hid hB4
    have HR4 := Lib.hid hR4
    have HBW4 := Lib.hid hb4
    have HW4 := Lib.hid hw4
    have HB5 := Lib.hid hb5
    rw [hw4] at q5
    clear hmx hB4 hR4 hb4 hw4 hb5 hlt2 hz23 HM3 HB23 HR2 HB2 HR0 HB0 HW0
    gi_wp2_with fail
    rw [← HW4.out, ← HB5.out]
    refine ⟨trivial, (callsIn_wide.2 (num_any 0 w4)).mono ?_⟩
    rintro e wx ⟨rfl, hwx⟩
    rw [hwx]
    clear hwx wx q5 HW4 HB5
    gi_wp2_with fail
    refine wpIn_loop (RmI w cn b5 A0 c0 L) (fun a' w' => L.length - (intOf (a'.tmps.getD 7 undef)).toNat) ?_ ?_
    · unfold RmI
      repeat apply Exists.intro
      refine ⟨⟨0, p, _, _, [], rfl, rfl, Nat.zero_le _, HMX.out, rfl, Nat.le_refl _, HB4.out, HR4.out, HBW4.out, trivial⟩, ?_⟩
      rfl
    clear HMX HB4 HR4 HBW4
    intro a' wr hinv
    unfold RmI at hinv
    obtain ⟨dd, hinv⟩ := hinv
    obtain ⟨u7, hinv⟩ := hinv
    obtain ⟨u8, hinv⟩ := hinv
    obtain ⟨u9, hinv⟩ := hinv
    obtain ⟨u10, hinv⟩ := hinv
    obtain ⟨u11, hinv⟩ := hinv
    obtain ⟨u12, hinv⟩ := hinv
    obtain ⟨u13, hinv⟩ := hinv
    obtain ⟨u14, hinv⟩ := hinv
    obtain ⟨u15, hinv⟩ := hinv
    obtain ⟨u16, hinv⟩ := hinv
    obtain ⟨u17, hinv⟩ := hinv
    obtain ⟨u18, hinv⟩ := hinv
    obtain ⟨u19, hinv⟩ := hinv
    obtain ⟨u20, hinv⟩ := hinv
    obtain ⟨u21, hinv⟩ := hinv
    obtain ⟨u22, hinv⟩ := hinv
    obtain ⟨u23, hinv⟩ := hinv
    obtain ⟨u24, hinv⟩ := hinv
    obtain ⟨u25, hinv⟩ := hinv
    obtain ⟨u26, hinv⟩ := hinv
    obtain ⟨u27, hinv⟩ := hinv
    obtain ⟨u28, hinv⟩ := hinv
    obtain ⟨u29, hinv⟩ := hinv
    obtain ⟨u30, hinv⟩ := hinv
    obtain ⟨u31, hinv⟩ := hinv
    obtain ⟨u32, hinv⟩ := hinv
    obtain ⟨u33, hinv⟩ := hinv
    obtain ⟨u34, hinv⟩ := hinv
    obtain ⟨u35, hinv⟩ := hinv
    obtain ⟨u36, hinv⟩ := hinv
    obtain ⟨u37, hinv⟩ := hinv
    obtain ⟨u38, hinv⟩ := hinv
    obtain ⟨u39, hinv⟩ := hinv
    obtain ⟨u40, hinv⟩ := hinv
    obtain ⟨u41, hinv⟩ := hinv
    obtain ⟨u42, hinv⟩ := hinv
    obtain ⟨u43, hinv⟩ := hinv
    obtain ⟨u44, hinv⟩ := hinv
    obtain ⟨u45, hinv⟩ := hinv
    obtain ⟨u46, hinv⟩ := hinv
    obtain ⟨u47, hinv⟩ := hinv
    obtain ⟨u48, hinv⟩ := hinv
    obtain ⟨u49, hinv⟩ := hinv
    obtain ⟨u50, hinv⟩ := hinv
    obtain ⟨u51, hinv⟩ := hinv
    obtain ⟨u52, hinv⟩ := hinv
    obtain ⟨u53, hinv⟩ := hinv
    obtain ⟨u54, hinv⟩ := hinv
    obtain ⟨u55, hinv⟩ := hinv
    obtain ⟨u56, hinv⟩ := hinv
    obtain ⟨u57, hinv⟩ := hinv
    obtain ⟨u58, hinv⟩ := hinv
    obtain ⟨u59, hinv⟩ := hinv
    obtain ⟨u60, hinv⟩ := hinv
    obtain ⟨u61, hinv⟩ := hinv
    obtain ⟨u62, hinv⟩ := hinv
    obtain ⟨u63, hinv⟩ := hinv
    obtain ⟨u64, hinv⟩ := hinv
    obtain ⟨u65, hinv⟩ := hinv
    obtain ⟨u66, hinv⟩ := hinv
    obtain ⟨u67, hinv⟩ := hinv
    obtain ⟨u68, hinv⟩ := hinv
    obtain ⟨u69, hinv⟩ := hinv
    obtain ⟨u70, hinv⟩ := hinv
    obtain ⟨u71, hinv⟩ := hinv
    obtain ⟨u72, hinv⟩ := hinv
    obtain ⟨u73, hinv⟩ := hinv
    obtain ⟨u74, hinv⟩ := hinv
    obtain ⟨u75, hinv⟩ := hinv
    obtain ⟨u76, hinv⟩ := hinv
    obtain ⟨u77, hinv⟩ := hinv
    obtain ⟨u78, hinv⟩ := hinv
    obtain ⟨u79, hinv⟩ := hinv
    obtain ⟨u80, hinv⟩ := hinv
    obtain ⟨u81, hinv⟩ := hinv
    obtain ⟨u82, hinv⟩ := hinv
    obtain ⟨u83, hinv⟩ := hinv
    obtain ⟨u84, hinv⟩ := hinv
    obtain ⟨u85, hinv⟩ := hinv
    obtain ⟨u86, hinv⟩ := hinv
    obtain ⟨u87, hinv⟩ := hinv
    obtain ⟨u88, hinv⟩ := hinv
    obtain ⟨u89, hinv⟩ := hinv
    obtain ⟨u90, hinv⟩ := hinv
    obtain ⟨u91, hinv⟩ := hinv
    obtain ⟨u92, hinv⟩ := hinv
    obtain ⟨u93, hinv⟩ := hinv
    obtain ⟨u94, hinv⟩ := hinv
    obtain ⟨u95, hinv⟩ := hinv
    obtain ⟨u96, hinv⟩ := hinv
    obtain ⟨u97, hinv⟩ := hinv
    obtain ⟨u98, hinv⟩ := hinv
    obtain ⟨u99, hinv⟩ := hinv
    obtain ⟨u100, hinv⟩ := hinv
    obtain ⟨u101, hinv⟩ := hinv
    obtain ⟨u102, hinv⟩ := hinv
    obtain ⟨u103, hinv⟩ := hinv
    obtain ⟨u104, hinv⟩ := hinv
    obtain ⟨u105, hinv⟩ := hinv
    obtain ⟨u106, hinv⟩ := hinv
    obtain ⟨u107, hinv⟩ := hinv
    obtain ⟨u108, hinv⟩ := hinv
    obtain ⟨u109, hinv⟩ := hinv
    obtain ⟨u110, hinv⟩ := hinv
    obtain ⟨u111, hinv⟩ := hinv
    obtain ⟨u112, hinv⟩ := hinv
    obtain ⟨u113, hinv⟩ := hinv
    obtain ⟨u114, hinv⟩ := hinv
    obtain ⟨u115, hinv⟩ := hinv
    obtain ⟨u116, hinv⟩ := hinv
    obtain ⟨u117, hinv⟩ := hinv
    obtain ⟨u118, hinv⟩ := hinv
    obtain ⟨u119, hinv⟩ := hinv
    obtain ⟨u120, hinv⟩ := hinv
    obtain ⟨u121, hinv⟩ := hinv
    obtain ⟨u122, hinv⟩ := hinv
    obtain ⟨u123, hinv⟩ := hinv
    obtain ⟨u124, hinv⟩ := hinv
    obtain ⟨u125, hinv⟩ := hinv
    obtain ⟨u126, hinv⟩ := hinv
    obtain ⟨u127, hinv⟩ := hinv
    obtain ⟨u128, hinv⟩ := hinv
    obtain ⟨u129, hinv⟩ := hinv
    obtain ⟨u130, hinv⟩ := hinv
    obtain ⟨u131, hinv⟩ := hinv
    obtain ⟨u132, hinv⟩ := hinv
    obtain ⟨u133, hinv⟩ := hinv
    obtain ⟨u134, hinv⟩ := hinv
    obtain ⟨u135, hinv⟩ := hinv
    obtain ⟨u136, hinv⟩ := hinv
    obtain ⟨u137, hinv⟩ := hinv
    obtain ⟨u138, hinv⟩ := hinv
    obtain ⟨u139, hinv⟩ := hinv
    obtain ⟨u140, hinv⟩ := hinv
    obtain ⟨u141, hinv⟩ := hinv
    obtain ⟨u142, hinv⟩ := hinv
    obtain ⟨u143, hinv⟩ := hinv
    obtain ⟨u144, hinv⟩ := hinv
    obtain ⟨u145, hinv⟩ := hinv
    obtain ⟨u146, hinv⟩ := hinv
    obtain ⟨u147, hinv⟩ := hinv
    obtain ⟨u148, hinv⟩ := hinv
    obtain ⟨u149, hinv⟩ := hinv
    obtain ⟨u150, hinv⟩ := hinv
    obtain ⟨u151, hinv⟩ := hinv
    obtain ⟨u152, hinv⟩ := hinv
    obtain ⟨u153, hinv⟩ := hinv
    obtain ⟨u154, hinv⟩ := hinv
    obtain ⟨u155, hinv⟩ := hinv
    obtain ⟨u156, hinv⟩ := hinv
    obtain ⟨u157, hinv⟩ := hinv
    obtain ⟨u158, hinv⟩ := hinv
    obtain ⟨u159, hinv⟩ := hinv
    obtain ⟨u160, hinv⟩ := hinv
    obtain ⟨u161, hinv⟩ := hinv
    obtain ⟨u162, hinv⟩ := hinv
    obtain ⟨u163, hinv⟩ := hinv
    obtain ⟨u164, hinv⟩ := hinv
    obtain ⟨u165, hinv⟩ := hinv
    obtain ⟨u166, hinv⟩ := hinv
    obtain ⟨u167, hinv⟩ := hinv
    obtain ⟨u168, hinv⟩ := hinv
    obtain ⟨u169, hinv⟩ := hinv
    obtain ⟨u170, hinv⟩ := hinv
    obtain ⟨u171, hinv⟩ := hinv
    obtain ⟨u172, hinv⟩ := hinv
    obtain ⟨u173, hinv⟩ := hinv
    obtain ⟨u174, hinv⟩ := hinv
    obtain ⟨u175, hinv⟩ := hinv
    obtain ⟨u176, hinv⟩ := hinv
    obtain ⟨u177, hinv⟩ := hinv
    obtain ⟨u178, hinv⟩ := hinv
    obtain ⟨u179, hinv⟩ := hinv
    obtain ⟨u180, hinv⟩ := hinv
    obtain ⟨u181, hinv⟩ := hinv
    obtain ⟨u182, hinv⟩ := hinv
    obtain ⟨u183, hinv⟩ := hinv
    obtain ⟨u184, hinv⟩ := hinv
    obtain ⟨u185, hinv⟩ := hinv
    obtain ⟨u186, hinv⟩ := hinv
    obtain ⟨u187, hinv⟩ := hinv
    obtain ⟨u188, hinv⟩ := hinv
    obtain ⟨u189, hinv⟩ := hinv
    obtain ⟨hrel, ha⟩ := hinv
    subst ha
    try dsimp only
    obtain ⟨i, p, S, F, Ds, rfl, rfl, hi, hm, hcap, hwr, hB, hR, hb, hD⟩ := hrel
    have HM := Lib.hid hm
    have HCW := Lib.hid (And.intro hcap hwr)
    have HB := Lib.hid hB
    have HR := Lib.hid hR
    have HBW := Lib.hid hb
    have HDS := Lib.hid hD
    clear hm hcap hwr hB hR hb hD
    by_cases hlt : i < L.length
    · obtain ⟨bs, os, eA, hcs, hst⟩ : ∃ bs os, A0 = some ⟨bs, os, none⟩ ∧ (∀ X, Below w.heap.size w X → StCells X bs (os + i * 6) L[i]) ∧ St0 w L[i] := by
        obtain ⟨A, c, e, hc, ha⟩ := HS.out
        obtain ⟨b, o, e2, hx⟩ := ha (by omega)
        injection e with e1 _ e3
        exact ⟨b, o, by rw [e1, e2], fun X hX => (hx i hlt).1.below hX, (hx i hlt).2⟩
      subst eA
      have hlen := (HL.out.2 L[i] (List.getElem_mem hlt)).1
      generalize L[i] = s at hcs hst hlen
      have hsa : ∀ X, Below w.heap.size w X → StAt X s := fun X hX => ⟨(hst.below hX).b, (hst.below hX).k, hst.n1, hst.n2, hlen⟩
      obtain ⟨m0, L0, eF, hd0, hf0⟩ := HM.out
      obtain ⟨r, hr⟩ : ∃ r, doS S F s = r := ⟨_, rfl⟩
      have hnum : r.2.1.cap = cn ∧ r.2.1.wr ≤ i + 1 := by
        have := doS_nums S F s
        rw [hr] at this
        have := HCW.out
        omega
      obtain ⟨Ab, cb, hbv⟩ : ∃ Ab cb, s.bv = .slice Ab s.b.length cb := by obtain ⟨A, c, e, _⟩ := hst.b; exact ⟨A, c, e⟩
      obtain ⟨ro, hro⟩ : ∃ ro : Int, ro = (cn : Int) - (totalP F : Int) := ⟨_, rfl⟩
      have hto : totalP F ≤ cn := by rw [← eF, total_plain, ← HCW.out.1]; exact hd0.room
      have hro1 : 0 ≤ ro := by omega
      have hro2 : ro ≤ 16777216 := by have := HCN.out; omega
      have HFACTS := Lib.hid (show
          (s.kind = 1 → r.1 = 0 → (cn : Int) - (totalP r.2.2 : Int) = ro - (s.b.length : Int)) ∧
          (s.kind = 1 → r.1 = 5 → (s.b.length : Int) ≤ ro → r.2.2.length = 64) ∧
          (s.kind = 5 → r.1 = 0 → readE F s.nm.data.toList = 0 ∧ (cn : Int) - (totalP r.2.2 : Int) = ro + ((bytesP F s.nm.data.toList).length : Int) ∧ (bytesP F s.nm.data.toList).length ≤ 16777216) from by
        subst eF
        refine ⟨fun hk h0 => ?_, fun hk h5 hle => ?_, fun hk h0 => ?_⟩
        · rw [doS_one hk] at hr
          subst hr
          rw [append_ok hd0.rise h0]
          omega
        · rw [doS_one hk] at hr
          subst hr
          obtain ⟨e1, e2⟩ := append_full h5 (by have := HCW.out.1; omega)
          rw [e1, plain_len, e2]
        · rw [doS_five hk] at hr
          subst hr
          obtain ⟨f, hf, hn, ht⟩ := remove_ok hd0.rise h0
          obtain ⟨h1, h2, h3⟩ := hd0.readIs hf
          rw [hn] at h1 h2
          rw [h1, h2]
          have := hd0.short hf
          exact ⟨rfl, by omega, this⟩)
      have HCS := Lib.hid hcs
      have HNUM := Lib.hid hnum
      have HBV := Lib.hid hbv
      have HLEN := Lib.hid hlen
      have HRO := Lib.hid hro
      have HDO := Lib.hid (show ∀ X, Below w.heap.size w X → Mx (AD w b5 Ds) X p S F → (w.heap.size + 1 ≤ X.heap.size ∧ b5 < X.heap.size ∧ ∀ D ∈ Ds, D < X.heap.size) → Calls Try.prog 13 #[.pointer (some ⟨p, 0, none⟩), .agg s.cs] X fun e W' => ∃ p', e = .returned (.tuple #[.int .i64 r.1, .pointer (some ⟨p', 0, none⟩)]) ∧ Mx (AD w b5 Ds) W' p' r.2.1 r.2.2 ∧ Keep (AD w b5 Ds) X W' from
        fun X h1 h2 h3 => mx_do h2 (fun i hi => ⟨by omega, by omega, fun e => by have := h3.2.2 i e; omega⟩) (by have := HCW.out.2; have := HL.out.1; omega) s (hsa X h1) hr)
      have hiI : (i : Int) < (L.length : Int) := by omega
      have hi0 : (0 : Int) ≤ (i : Int) := by omega
      have hiM : (i : Int) ≤ 100 := by have := HL.out.1; omega
      have HLT := Lib.hid hlt
      have q5 : wr.cell? ⟨b5, 0, none⟩ = some (.pointer (some ⟨p, 0, none⟩)) := by rw [HB.out.cell]; rfl
      have hrm : Calls Try.prog 28 #[.pointer (some ⟨p, 0, none⟩)] wr fun e W' => e = .returned (.int .i64 ro) ∧ Below wr.heap.size wr W' := (my_room HM.out.my).mono (fun e W' h => ⟨h.1.trans (by rw [HRO.out, HCW.out.1]), h.2⟩)
      have HRM := Lib.hid hrm
      clear hcs hst hlen hsa hr hnum hlt hbv hro hto hd0 hf0 eF hrm
      gi_wp2_with fail
      refine ⟨trivial, (callsIn_wide.2 HRM.out).mono ?_⟩
      rintro e X1 ⟨rfl, hx1⟩
      have hx1d : Below wr.heap.size wr X1.drew := hx1.trans ((Below.refl _ _).drew.mono hx1.size)
      have HX1 := Lib.hid hx1d
      have HM1 := Lib.hid (HM.out.below hx1d)
      have q5' : X1.drew.cell? ⟨b5, 0, none⟩ = some (.pointer (some ⟨p, 0, none⟩)) := by rw [(HB.out.below hx1d HB.out.lt).cell]; rfl
      have HS1 := Lib.hid (HBW.out.trans (hx1d.mono HBW.out.size))
      clear hx1 hx1d HRM q5
      gi_wp2_with fail
      refine wpIn_only (wpIn_wide.2 ?_)
      refine wp_region_held_drew (S := fun X => Below w.heap.size w X) hfo HS1.out (fun hS0 => ?_)
      generalize X1.drew = Y1 at hS0 HX1 HM1 q5' HS1 ⊢
      refine' wpAnyH_take (i := 1) (oi := ⟨some 53, _, _, _, _, _⟩) (v := _) rfl (by kernel_rfl) (by kernel_rfl) (by kernel_rfl) (fun _ _ _ h => h) (Or.inl ⟨by rfl, ?y1r⟩) hS0 ?r1r
      case y1r => (intro w' hSw; go_simp; try rfl)
      try simp only [Act.put, List.setIfInBounds_toArray, List.set_cons_zero, List.set_cons_succ]
      refine' wpAnyH_take (i := 2) (oi := ⟨some 54, _, _, _, _, _⟩) (v := _) rfl (by kernel_rfl) (by kernel_rfl) (by kernel_rfl) (fun _ _ _ h => h) (Or.inl ⟨by rfl, ?y2r⟩) hS0 ?r2r
      case y2r => (intro w' hSw; go_simp; try rfl)
      try simp only [Act.put, List.setIfInBounds_toArray, List.set_cons_zero, List.set_cons_succ]
      refine' wpAnyH_take (i := 3) (oi := ⟨some 55, _, _, _, _, _⟩) (v := _) rfl (by kernel_rfl) (by kernel_rfl) (by kernel_rfl) (fun _ _ _ h => h) (Or.inl ⟨by rfl, ?y3r⟩) hS0 ?r3r
      case y3r => (intro w' hSw; go_simp; try rfl)
      try simp only [Act.put, List.setIfInBounds_toArray, List.set_cons_zero, List.set_cons_succ]
      refine' wpAnyH_take (i := 4) (oi := ⟨some 56, _, _, _, _, _⟩) (v := _) rfl (by kernel_rfl) (by kernel_rfl) (by kernel_rfl) (fun _ _ _ h => h) (Or.inl ⟨by rfl, ?y4r⟩) hS0 ?r4r
      case y4r => (intro w' hSw; go_simp; try rfl)
      try simp only [Act.put, List.setIfInBounds_toArray, List.set_cons_zero, List.set_cons_succ]
      refine' wpAnyH_take (i := 5) (oi := ⟨some 57, _, _, _, _, _⟩) (v := _) rfl (by kernel_rfl) (by kernel_rfl) (by kernel_rfl) (fun _ _ _ h => h) (Or.inl ⟨by rfl, ?y5r⟩) hS0 ?r5r
      case y5r => (intro w' hSw; have e := HCS.out w' hSw; obtain ⟨e0, e1, e2, e3, e4, e5⟩ := e; go_simp; try rfl)
      try simp only [Act.put, List.setIfInBounds_toArray, List.set_cons_zero, List.set_cons_succ]
      refine held_one (i := 0) (by kernel_rfl) rfl (fun K hK => ?_)
      go_simp
      refine hK.out _ _ hS0 (fun _ => ?_)
      clear hK K
      try simp only [Act.put, List.setIfInBounds_toArray, List.set_cons_zero, List.set_cons_succ]
      refine held_one (i := 6) (by kernel_rfl) rfl (fun K hK => ?_)
      go_simp
      refine (my_read HM1.out.my s.nm).mono ?_
      rintro e Y2 ⟨vb, rfl, hob, hy2⟩
      obtain ⟨Ab0, nb, cb0, hvb⟩ := hob.shape
      have hslb := hob.sl
      rw [hvb] at hslb
      have hnb := hslb.len
      rw [hvb]
      have hS2 : Below w.heap.size w Y2 := hS0.trans (hy2.mono hS0.size)
      have HY2 := Lib.hid hy2
      have HNB := Lib.hid hnb
      clear hob hy2 hvb hslb hnb
      refine hK.out _ _ hS2 (fun _ => ?_)
      clear hK K
      try simp only [Act.put, List.setIfInBounds_toArray, List.set_cons_zero, List.set_cons_succ]
      refine' wpAnyH_take (i := 7) (oi := ⟨some 51, _, _, _, _, _⟩) (v := _) rfl (by kernel_rfl) (by kernel_rfl) (by kernel_rfl) (fun _ _ _ h => h) (Or.inl ⟨by rfl, ?y7r⟩) hS2 ?r7r
      case y7r => (intro w' hSw; go_simp; try rfl)
      try simp only [Act.put, List.setIfInBounds_toArray, List.set_cons_zero, List.set_cons_succ]
      refine' wpAnyH_take (i := 8) (oi := ⟨some 59, _, _, _, _, _⟩) (v := _) rfl (by kernel_rfl) (by kernel_rfl) (by kernel_rfl) (fun _ _ _ h => h) (Or.inl ⟨by rfl, ?y8r⟩) hS2 ?r8r
      case y8r => (intro w' hSw; go_simp; try rfl)
      try simp only [Act.put, List.setIfInBounds_toArray, List.set_cons_zero, List.set_cons_succ]
      refine' wpAnyH_take (i := 9) (oi := ⟨some 60, _, _, _, _, _⟩) (v := _) rfl (by kernel_rfl) (by kernel_rfl) (by kernel_rfl) (fun _ _ _ h => h) (Or.inl ⟨by rfl, ?y9r⟩) hS2 ?r9r
      case y9r => (intro w' hSw; go_simp; try rfl)
      try simp only [Act.put, List.setIfInBounds_toArray, List.set_cons_zero, List.set_cons_succ]
      refine' wpAnyH_take (i := 10) (oi := ⟨some 9, _, _, _, _, _⟩) (v := _) rfl (by kernel_rfl) (by kernel_rfl) (by kernel_rfl) (fun _ _ _ h => h) (Or.inl ⟨by rfl, ?y10r⟩) hS2 ?r10r
      case y10r => (intro w' hSw; go_simp; try rfl)
      try simp only [Act.put, List.setIfInBounds_toArray, List.set_cons_zero, List.set_cons_succ]
      refine' wpAnyH_take (i := 11) (oi := ⟨some 10, _, _, _, _, _⟩) (v := _) rfl (by kernel_rfl) (by kernel_rfl) (by kernel_rfl) (fun _ _ _ h => h) (Or.inl ⟨by rfl, ?y11r⟩) hS2 ?r11r
      case y11r => (intro w' hSw; go_simp; try rfl)
      try simp only [Act.put, List.setIfInBounds_toArray, List.set_cons_zero, List.set_cons_succ]
      refine wpAnyH_done (by kernel_rfl) ?_ _
      dsimp only [OnlyNormal]
      have hy2d : Below wr.heap.size wr Y2.drew := (HX1.out.trans (HY2.out.mono HX1.out.size)).trans ((Below.refl _ _).drew.mono (Nat.le_trans HX1.out.size HY2.out.size))
      have HM3 := Lib.hid (HM.out.below hy2d)
      have HB3 := Lib.hid (HB.out.below hy2d HB.out.lt)
      have HR3 := Lib.hid (HR.out.below hy2d HR.out.lt)
      have HD3 := Lib.hid (HDS.out.below hy2d)
      have HS3 := Lib.hid (HBW.out.trans (hy2d.mono HBW.out.size))
      have HSZ3 := Lib.hid (show w.heap.size + 1 ≤ Y2.drew.heap.size ∧ b5 < Y2.drew.heap.size ∧ ∀ D ∈ Ds, D < Y2.drew.heap.size from ⟨HR3.out.lt, HB3.out.lt, HD3.out.lt⟩)
      have q5 : Y2.drew.cell? ⟨b5, 0, none⟩ = some (.pointer (some ⟨p, 0, none⟩)) := by rw [HB3.out.cell]; rfl
      clear hy2d hS0 hS2 q5' HX1 HY2 HM1 HS1 HM HB HR HBW HDS
      gi_wp2_with fail
      refine wpIn_only (wpIn_wide.2 ?_)
      refine wp_region_held_drew (S := fun X => Below w.heap.size w X) hfo HS3.out (fun hS0 => ?_)
      generalize Y2.drew = Y3 at hS0 HM3 HB3 HR3 HD3 HS3 HSZ3 q5 ⊢
      refine' wpAnyH_take (i := 1) (oi := ⟨some 63, _, _, _, _, _⟩) (v := _) rfl (by kernel_rfl) (by kernel_rfl) (by kernel_rfl) (fun _ _ _ h => h) (Or.inl ⟨by rfl, ?y1d⟩) hS0 ?r1d
      case y1d => (intro w' hSw; go_simp; try rfl)
      try simp only [Act.put, List.setIfInBounds_toArray, List.set_cons_zero, List.set_cons_succ]
      refine' wpAnyH_take (i := 2) (oi := ⟨some 64, _, _, _, _, _⟩) (v := _) rfl (by kernel_rfl) (by kernel_rfl) (by kernel_rfl) (fun _ _ _ h => h) (Or.inl ⟨by rfl, ?y2d⟩) hS0 ?r2d
      case y2d => (intro w' hSw; go_simp; try rfl)
      try simp only [Act.put, List.setIfInBounds_toArray, List.set_cons_zero, List.set_cons_succ]
      refine' wpAnyH_take (i := 3) (oi := ⟨some 65, _, _, _, _, _⟩) (v := _) rfl (by kernel_rfl) (by kernel_rfl) (by kernel_rfl) (fun _ _ _ h => h) (Or.inl ⟨by rfl, ?y3d⟩) hS0 ?r3d
      case y3d => (intro w' hSw; go_simp; try rfl)
      try simp only [Act.put, List.setIfInBounds_toArray, List.set_cons_zero, List.set_cons_succ]
      refine' wpAnyH_take (i := 4) (oi := ⟨some 66, _, _, _, _, _⟩) (v := _) rfl (by kernel_rfl) (by kernel_rfl) (by kernel_rfl) (fun _ _ _ h => h) (Or.inl ⟨by rfl, ?y4d⟩) hS0 ?r4d
      case y4d => (intro w' hSw; have e := HCS.out w' hSw; obtain ⟨e0, e1, e2, e3, e4, e5⟩ := e; go_simp; try rfl)
      try simp only [Act.put, List.setIfInBounds_toArray, List.set_cons_zero, List.set_cons_succ]
      refine held_one (i := 0) (by kernel_rfl) rfl (fun K hK => ?_)
      go_simp
      refine hK.out _ _ hS0 (fun _ => ?_)
      clear hK K
      try simp only [Act.put, List.setIfInBounds_toArray, List.set_cons_zero, List.set_cons_succ]
      refine held_one (i := 5) (by kernel_rfl) rfl (fun K hK => ?_)
      go_simp
      refine (HDO.out _ hS0 HM3.out HSZ3.out).mono ?_
      rintro e Y5 ⟨p5, rfl, hm5, hk5⟩
      have hb5 : Below w.heap.size w Y5 := ⟨hk5.os.trans hS0.os, hk5.tape.trans hS0.tape, hk5.output.trans hS0.output, Nat.le_trans hS0.size hk5.size, fun k hk => (hk5.block k (Nat.lt_of_lt_of_le hk hS0.size) (fun e => by have := e.1; omega)).trans (hS0.block k hk)⟩
      have hB5 := HB3.out.kept hk5 (fun e => e.2.1 rfl)
      have hR5 := HR3.out.kept hk5 (fun e => by have := e.1; omega)
      have hD5 := HD3.out.kept (fun D hD => hk5.block D (HD3.out.lt D hD) (fun e => e.2.2 hD))
      have H5 := Lib.hid (And.intro hm5 (And.intro hB5 (And.intro hR5 (And.intro hD5 hb5))))
      clear hm5 hk5 hB5 hR5 hD5
      refine hK.out _ _ hb5 (fun _ => ?_)
      clear hK K
      try simp only [Act.put, List.setIfInBounds_toArray, List.set_cons_zero, List.set_cons_succ]
      refine' wpAnyH_take (i := 6) (oi := ⟨some 61, _, _, _, _, _⟩) (v := _) rfl (by kernel_rfl) (by kernel_rfl) (by kernel_rfl) (fun _ _ _ h => h) (Or.inl ⟨by rfl, ?y6d⟩) hb5 ?r6d
      case y6d => (intro w' hSw; go_simp; try rfl)
      try simp only [Act.put, List.setIfInBounds_toArray, List.set_cons_zero, List.set_cons_succ]
      refine' wpAnyH_take (i := 7) (oi := ⟨some 68, _, _, _, _, _⟩) (v := _) rfl (by kernel_rfl) (by kernel_rfl) (by kernel_rfl) (fun _ _ _ h => h) (Or.inl ⟨by rfl, ?y7d⟩) hb5 ?r7d
      case y7d => (intro w' hSw; go_simp; try rfl)
      try simp only [Act.put, List.setIfInBounds_toArray, List.set_cons_zero, List.set_cons_succ]
      refine' wpAnyH_take (i := 8) (oi := ⟨some 69, _, _, _, _, _⟩) (v := _) rfl (by kernel_rfl) (by kernel_rfl) (by kernel_rfl) (fun _ _ _ h => h) (Or.inl ⟨by rfl, ?y8d⟩) hb5 ?r8d
      case y8d => (intro w' hSw; go_simp; try rfl)
      try simp only [Act.put, List.setIfInBounds_toArray, List.set_cons_zero, List.set_cons_succ]
      refine' wpAnyH_take (i := 9) (oi := ⟨some 11, _, _, _, _, _⟩) (v := _) rfl (by kernel_rfl) (by kernel_rfl) (by kernel_rfl) (fun _ _ _ h => h) (Or.inl ⟨by rfl, ?y9d⟩) hb5 ?r9d
      case y9d => (intro w' hSw; go_simp; try rfl)
      try simp only [Act.put, List.setIfInBounds_toArray, List.set_cons_zero, List.set_cons_succ]
      refine' wpAnyH_take (i := 10) (oi := ⟨some 12, _, _, _, _, _⟩) (v := _) rfl (by kernel_rfl) (by kernel_rfl) (by kernel_rfl) (fun _ _ _ h => h) (Or.inl ⟨by rfl, ?y10d⟩) hb5 ?r10d
      case y10d => (intro w' hSw; go_simp; try rfl)
      try simp only [Act.put, List.setIfInBounds_toArray, List.set_cons_zero, List.set_cons_succ]
      refine wpAnyH_done (by kernel_rfl) ?_ _
      dsimp only [OnlyNormal]
      obtain ⟨X6, hX6⟩ : ∃ X6, X6 = Y5.setCell ⟨b5, 0, none⟩ (.pointer (some ⟨p5, 0, none⟩)) := ⟨_, rfl⟩
      have hk6 : Keep (fun i => i = b5) Y5 X6 := by rw [hX6]; exact Keep.setCell _ _ _ rfl
      have hB6 : Blk X6 b5 23 #[.pointer (some ⟨p5, 0, none⟩)] := by rw [hX6]; exact H5.out.2.1.set_ 0 _
      have hb6 : Below w.heap.size w X6 := by rw [hX6]; exact H5.out.2.2.2.2.setCell (p := ⟨b5, 0, none⟩) (by show w.heap.size ≤ b5; have := HLB.out; omega) _
      have hR6 := H5.out.2.2.1.kept hk6 (fun e => by have := HLB.out; omega)
      have hm6 := H5.out.1.kept hk6 (fun i hi e => hi.2.1 e)
      have hD6 := H5.out.2.2.2.1.kept (fun D hD => hk6.block D (H5.out.2.2.2.1.lt D hD) (fun e => by
        have h1 := (H5.out.2.2.2.1.open D hD).2
        have h2 := H5.out.2.1
        unfold Blk at h2
        rw [e] at h1
        rw [h1] at h2
        cases h2))
      have hq6 : X6.cell? ⟨b5, 0, none⟩ = some (.pointer (some ⟨p5, 0, none⟩)) := by rw [hB6.cell]; rfl
      have q5' : Y5.cell? ⟨b5, 0, none⟩ = some (.pointer (some ⟨p, 0, none⟩)) := by rw [H5.out.2.1.cell]; rfl
      have f5' := H5.out.2.1.frozen 0
      have HX6 := Lib.hid hX6
      have H6 := Lib.hid (And.intro hm6 (And.intro hB6 (And.intro hR6 (And.intro hD6 hb6))))
      have HCC := Lib.hid (show ∀ X, Below X6.heap.size X6 X → X.cell? ⟨b5, 0, none⟩ = some (.pointer (some ⟨p5, 0, none⟩)) ∧ X.cell? ⟨bs, os + i * 6, none⟩ = some (.int .i64 s.kind) ∧ X.cell? ⟨bs, os + i * 6 + 4, none⟩ = some (.slice Ab s.b.length cb) from fun X hX => by
        obtain ⟨e0, e1, e2, e3, e4, e5⟩ := HCS.out X (hb6.trans (hX.mono hb6.size))
        rw [HBV.out] at e4
        exact ⟨(hX.cell (World.block_lt_of_cell? X6 _ hq6)).trans hq6, e0, e4⟩)
      have HROOMS := Lib.hid (show ∀ rn : Int, rn = (cn : Int) - (totalP r.2.2 : Int) → ∀ X, Below X6.heap.size X6 X → Calls Try.prog 28 #[.pointer (some ⟨p5, 0, none⟩)] X fun e W' => e = .returned (.int .i64 rn) ∧ Below X.heap.size X W' from fun rn hrn X hX => (my_room (hm6.below hX).my).mono (fun e W' h => ⟨h.1.trans (by rw [hrn, HNUM.out.1]), h.2⟩))
      rw [hX6] at hq6
      clear hk6 hB6 hb6 hR6 hm6 hD6 hX6 hS0 q5 hb5
      gi_upto_region 15 with (fail)
      rw [← HX6.out]
      gi_cut [122] from 43 (fun c wx => c = .bool false ∧ Below X6.heap.size X6 wx)
      case first =>
        as_aux_lemma =>
          clear hq6 q5' f5'
          by_cases hk1 : s.kind = 1
          · have hkb : (s.kind == 1) = true := by rw [beq_iff_eq]; exact hk1
            by_cases h0 : r.1 = 0
            · have h0b : (r.1 == 0) = true := by rw [beq_iff_eq]; exact h0
              have h5b : (r.1 == 5) = false := by rw [beq_eq_false_iff_ne]; omega
              have hrn := HFACTS.out.1 hk1 h0
              have hlb : (s.b.length : Int) ≤ 20000 := by have := HLEN.out; omega
              have hlb0 : (0 : Int) ≤ (s.b.length : Int) := by omega
              have hw1 : IntKind.i64.wrap (ro - (s.b.length : Int)) = ro - (s.b.length : Int) := by rw [IntKind.wrap_i64] <;> omega
              as_aux_lemma =>
                refine wpIn_only (wpIn_wide.2 ?_)
                have HD6 := Lib.hid (show Below X6.heap.size X6 X6.drew from (Below.refl _ _).drew)
                refine wp_region_held_drew (S := fun X => Below X6.drew.heap.size X6.drew X) hfo (Below.refl _ _) (fun hS0 => ?_)
                have HC6 := Lib.hid (fun X (hX : Below X6.drew.heap.size X6.drew X) => HCC.out X (HD6.out.trans (hX.mono HD6.out.size)))
                have HROOM := Lib.hid (fun X (hX : Below X6.drew.heap.size X6.drew X) => HROOMS.out (ro - (s.b.length : Int)) hrn.symm X (HD6.out.trans (hX.mono HD6.out.size)))
                clear hrn hk1 h0
                refine' wpAnyH_take (i := 0) (oi := ⟨some 73, _, _, _, _, _⟩) (v := _) rfl (by kernel_rfl) (by kernel_rfl) (by kernel_rfl) (fun _ _ _ h => h) (Or.inl ⟨by rfl, ?y0A⟩) hS0 ?r0A
                case y0A => (intro w' hSw; obtain ⟨s1, s2, s3⟩ := HC6.out w' hSw; go_simp; try rfl)
                try simp only [Act.put, List.setIfInBounds_toArray, List.set_cons_zero, List.set_cons_succ]
                refine' wpAnyH_take (i := 1) (oi := ⟨some 74, _, _, _, _, _⟩) (v := _) rfl (by kernel_rfl) (by kernel_rfl) (by kernel_rfl) (fun _ _ _ h => h) (Or.inl ⟨by rfl, ?y1A⟩) hS0 ?r1A
                case y1A => (intro w' hSw; obtain ⟨s1, s2, s3⟩ := HC6.out w' hSw; go_simp; try rfl)
                try simp only [Act.put, List.setIfInBounds_toArray, List.set_cons_zero, List.set_cons_succ]
                refine' wpAnyH_take (i := 2) (oi := ⟨some 75, _, _, _, _, _⟩) (v := _) rfl (by kernel_rfl) (by kernel_rfl) (by kernel_rfl) (fun _ _ _ h => h) (Or.inl ⟨by rfl, ?y2A⟩) hS0 ?r2A
                case y2A => (intro w' hSw; obtain ⟨s1, s2, s3⟩ := HC6.out w' hSw; go_simp; try rfl)
                try simp only [Act.put, List.setIfInBounds_toArray, List.set_cons_zero, List.set_cons_succ]
                refine' wpAnyH_take (i := 3) (oi := ⟨some 76, _, _, _, _, _⟩) (v := _) rfl (by kernel_rfl) (by kernel_rfl) (by kernel_rfl) (fun _ _ _ h => h) (Or.inl ⟨by rfl, ?y3A⟩) hS0 ?r3A
                case y3A => (intro w' hSw; obtain ⟨s1, s2, s3⟩ := HC6.out w' hSw; go_simp; try rfl)
                try simp only [Act.put, List.setIfInBounds_toArray, List.set_cons_zero, List.set_cons_succ]
                refine' wpAnyH_take (i := 4) (oi := ⟨some 77, _, _, _, _, _⟩) (v := _) rfl (by kernel_rfl) (by kernel_rfl) (by kernel_rfl) (fun _ _ _ h => h) (Or.inl ⟨by rfl, ?y4A⟩) hS0 ?r4A
                case y4A => (intro w' hSw; obtain ⟨s1, s2, s3⟩ := HC6.out w' hSw; go_simp; try rfl)
                try simp only [Act.put, List.setIfInBounds_toArray, List.set_cons_zero, List.set_cons_succ]
                refine' wpAnyH_take (i := 5) (oi := ⟨some 78, _, _, _, _, _⟩) (v := _) rfl (by kernel_rfl) (by kernel_rfl) (by kernel_rfl) (fun _ _ _ h => h) (Or.inl ⟨by rfl, ?y5A⟩) hS0 ?r5A
                case y5A => (intro w' hSw; obtain ⟨s1, s2, s3⟩ := HC6.out w' hSw; go_simp; try rfl)
                try simp only [Act.put, List.setIfInBounds_toArray, List.set_cons_zero, List.set_cons_succ]
                refine' wpAnyH_take (i := 6) (oi := ⟨some 79, _, _, _, _, _⟩) (v := _) rfl (by kernel_rfl) (by kernel_rfl) (by kernel_rfl) (fun _ _ _ h => h) (Or.inl ⟨by rfl, ?y6A⟩) hS0 ?r6A
                case y6A => (intro w' hSw; obtain ⟨s1, s2, s3⟩ := HC6.out w' hSw; go_simp; try rfl)
                try simp only [Act.put, List.setIfInBounds_toArray, List.set_cons_zero, List.set_cons_succ]
                refine' wpAnyH_take (i := 7) (oi := ⟨some 80, _, _, _, _, _⟩) (v := _) rfl (by kernel_rfl) (by kernel_rfl) (by kernel_rfl) (fun _ _ _ h => h) (Or.inl ⟨by rfl, ?y7A⟩) hS0 ?r7A
                case y7A => (intro w' hSw; obtain ⟨s1, s2, s3⟩ := HC6.out w' hSw; go_simp; try rfl)
                try simp only [Act.put, List.setIfInBounds_toArray, List.set_cons_zero, List.set_cons_succ]
                refine' wpAnyH_take (i := 8) (oi := ⟨some 81, _, _, _, _, _⟩) (v := _) rfl (by kernel_rfl) (by kernel_rfl) (by kernel_rfl) (fun _ _ _ h => h) (Or.inl ⟨by rfl, ?y8A⟩) hS0 ?r8A
                case y8A => (intro w' hSw; obtain ⟨s1, s2, s3⟩ := HC6.out w' hSw; go_simp; try rfl)
                try simp only [Act.put, List.setIfInBounds_toArray, List.set_cons_zero, List.set_cons_succ]
                refine' wpAnyH_take (i := 9) (oi := ⟨some 82, _, _, _, _, _⟩) (v := _) rfl (by kernel_rfl) (by kernel_rfl) (by kernel_rfl) (fun _ _ _ h => h) (Or.inl ⟨by rfl, ?y9A⟩) hS0 ?r9A
                case y9A => (intro w' hSw; obtain ⟨s1, s2, s3⟩ := HC6.out w' hSw; go_simp; try rfl)
                try simp only [Act.put, List.setIfInBounds_toArray, List.set_cons_zero, List.set_cons_succ]
                refine' wpAnyH_take (i := 10) (oi := ⟨some 83, _, _, _, _, _⟩) (v := _) rfl (by kernel_rfl) (by kernel_rfl) (by kernel_rfl) (fun _ _ _ h => h) (Or.inl ⟨by rfl, ?y10A⟩) hS0 ?r10A
                case y10A => (intro w' hSw; obtain ⟨s1, s2, s3⟩ := HC6.out w' hSw; go_simp; try rfl)
                try simp only [Act.put, List.setIfInBounds_toArray, List.set_cons_zero, List.set_cons_succ]
                refine' wpAnyH_take (i := 11) (oi := ⟨some 84, _, _, _, _, _⟩) (v := _) rfl (by kernel_rfl) (by kernel_rfl) (by kernel_rfl) (fun _ _ _ h => h) (Or.inl ⟨by rfl, ?y11A⟩) hS0 ?r11A
                case y11A => (intro w' hSw; obtain ⟨s1, s2, s3⟩ := HC6.out w' hSw; go_simp; try rfl)
                try simp only [Act.put, List.setIfInBounds_toArray, List.set_cons_zero, List.set_cons_succ]
                refine' wpAnyH_take (i := 13) (oi := ⟨some 86, _, _, _, _, _⟩) (v := _) rfl (by kernel_rfl) (by kernel_rfl) (by kernel_rfl) (fun _ _ _ h => h) (Or.inl ⟨by rfl, ?y13A⟩) hS0 ?r13A
                case y13A => (intro w' hSw; obtain ⟨s1, s2, s3⟩ := HC6.out w' hSw; go_simp; try rfl)
                try simp only [Act.put, List.setIfInBounds_toArray, List.set_cons_zero, List.set_cons_succ]
                refine' wpAnyH_take (i := 14) (oi := ⟨some 87, _, _, _, _, _⟩) (v := _) rfl (by kernel_rfl) (by kernel_rfl) (by kernel_rfl) (fun _ _ _ h => h) (Or.inl ⟨by rfl, ?y14A⟩) hS0 ?r14A
                case y14A => (intro w' hSw; obtain ⟨s1, s2, s3⟩ := HC6.out w' hSw; go_simp; try rfl)
                try simp only [Act.put, List.setIfInBounds_toArray, List.set_cons_zero, List.set_cons_succ]
                refine' wpAnyH_take (i := 15) (oi := ⟨some 88, _, _, _, _, _⟩) (v := _) rfl (by kernel_rfl) (by kernel_rfl) (by kernel_rfl) (fun _ _ _ h => h) (Or.inl ⟨by rfl, ?y15A⟩) hS0 ?r15A
                case y15A => (intro w' hSw; obtain ⟨s1, s2, s3⟩ := HC6.out w' hSw; go_simp; try rfl)
                try simp only [Act.put, List.setIfInBounds_toArray, List.set_cons_zero, List.set_cons_succ]
                refine' wpAnyH_take (i := 16) (oi := ⟨some 89, _, _, _, _, _⟩) (v := _) rfl (by kernel_rfl) (by kernel_rfl) (by kernel_rfl) (fun _ _ _ h => h) (Or.inl ⟨by rfl, ?y16A⟩) hS0 ?r16A
                case y16A => (intro w' hSw; obtain ⟨s1, s2, s3⟩ := HC6.out w' hSw; go_simp; try rfl)
                try simp only [Act.put, List.setIfInBounds_toArray, List.set_cons_zero, List.set_cons_succ]
                refine' wpAnyH_take (i := 17) (oi := ⟨some 90, _, _, _, _, _⟩) (v := _) rfl (by kernel_rfl) (by kernel_rfl) (by kernel_rfl) (fun _ _ _ h => h) (Or.inl ⟨by rfl, ?y17A⟩) hS0 ?r17A
                case y17A => (intro w' hSw; obtain ⟨s1, s2, s3⟩ := HC6.out w' hSw; go_simp; try rfl)
                try simp only [Act.put, List.setIfInBounds_toArray, List.set_cons_zero, List.set_cons_succ]
                refine' wpAnyH_take (i := 18) (oi := ⟨some 91, _, _, _, _, _⟩) (v := _) rfl (by kernel_rfl) (by kernel_rfl) (by kernel_rfl) (fun _ _ _ h => h) (Or.inl ⟨by rfl, ?y18A⟩) hS0 ?r18A
                case y18A => (intro w' hSw; obtain ⟨s1, s2, s3⟩ := HC6.out w' hSw; go_simp; try rfl)
                try simp only [Act.put, List.setIfInBounds_toArray, List.set_cons_zero, List.set_cons_succ]
                refine' wpAnyH_take (i := 19) (oi := ⟨some 92, _, _, _, _, _⟩) (v := _) rfl (by kernel_rfl) (by kernel_rfl) (by kernel_rfl) (fun _ _ _ h => h) (Or.inl ⟨by rfl, ?y19A⟩) hS0 ?r19A
                case y19A => (intro w' hSw; obtain ⟨s1, s2, s3⟩ := HC6.out w' hSw; go_simp; try rfl)
                try simp only [Act.put, List.setIfInBounds_toArray, List.set_cons_zero, List.set_cons_succ]
                refine' wpAnyH_take (i := 20) (oi := ⟨some 93, _, _, _, _, _⟩) (v := _) rfl (by kernel_rfl) (by kernel_rfl) (by kernel_rfl) (fun _ _ _ h => h) (Or.inl ⟨by rfl, ?y20A⟩) hS0 ?r20A
                case y20A => (intro w' hSw; obtain ⟨s1, s2, s3⟩ := HC6.out w' hSw; go_simp; try rfl)
                try simp only [Act.put, List.setIfInBounds_toArray, List.set_cons_zero, List.set_cons_succ]
                refine held_one (i := 12) (by kernel_rfl) rfl (fun K hK => ?_)
                go_simp
                refine (HROOM.out _ hS0).mono ?_
                rintro e Z2 ⟨rfl, hz2⟩
                have hS1 := hS0.trans (hz2.mono hS0.size)
                clear hz2
                refine hK.out _ _ hS1 (fun _ => ?_)
                clear hK K
                try simp only [Act.put, List.setIfInBounds_toArray, List.set_cons_zero, List.set_cons_succ]
                refine' wpAnyH_take (i := 21) (oi := ⟨some 94, _, _, _, _, _⟩) (v := _) rfl (by kernel_rfl) (by kernel_rfl) (by kernel_rfl) (fun _ _ _ h => h) (Or.inl ⟨by rfl, ?y21A⟩) hS1 ?r21A
                case y21A => (intro w' hSw; obtain ⟨s1, s2, s3⟩ := HC6.out w' hSw; go_simp; try rfl)
                try simp only [Act.put, List.setIfInBounds_toArray, List.set_cons_zero, List.set_cons_succ]
                refine' wpAnyH_take (i := 22) (oi := ⟨some 95, _, _, _, _, _⟩) (v := _) rfl (by kernel_rfl) (by kernel_rfl) (by kernel_rfl) (fun _ _ _ h => h) (Or.inl ⟨by rfl, ?y22A⟩) hS1 ?r22A
                case y22A => (intro w' hSw; obtain ⟨s1, s2, s3⟩ := HC6.out w' hSw; go_simp; try rfl)
                try simp only [Act.put, List.setIfInBounds_toArray, List.set_cons_zero, List.set_cons_succ]
                refine' wpAnyH_take (i := 23) (oi := ⟨some 96, _, _, _, _, _⟩) (v := _) rfl (by kernel_rfl) (by kernel_rfl) (by kernel_rfl) (fun _ _ _ h => h) (Or.inl ⟨by rfl, ?y23A⟩) hS1 ?r23A
                case y23A => (intro w' hSw; obtain ⟨s1, s2, s3⟩ := HC6.out w' hSw; go_simp; try rfl)
                try simp only [Act.put, List.setIfInBounds_toArray, List.set_cons_zero, List.set_cons_succ]
                refine' wpAnyH_take (i := 24) (oi := ⟨some 97, _, _, _, _, _⟩) (v := _) rfl (by kernel_rfl) (by kernel_rfl) (by kernel_rfl) (fun _ _ _ h => h) (Or.inl ⟨by rfl, ?y24A⟩) hS1 ?r24A
                case y24A => (intro w' hSw; obtain ⟨s1, s2, s3⟩ := HC6.out w' hSw; go_simp; try rfl)
                try simp only [Act.put, List.setIfInBounds_toArray, List.set_cons_zero, List.set_cons_succ]
                refine' wpAnyH_take (i := 25) (oi := ⟨some 98, _, _, _, _, _⟩) (v := _) rfl (by kernel_rfl) (by kernel_rfl) (by kernel_rfl) (fun _ _ _ h => h) (Or.inl ⟨by rfl, ?y25A⟩) hS1 ?r25A
                case y25A => (intro w' hSw; obtain ⟨s1, s2, s3⟩ := HC6.out w' hSw; go_simp; try rfl)
                try simp only [Act.put, List.setIfInBounds_toArray, List.set_cons_zero, List.set_cons_succ]
                refine' wpAnyH_take (i := 26) (oi := ⟨some 99, _, _, _, _, _⟩) (v := _) rfl (by kernel_rfl) (by kernel_rfl) (by kernel_rfl) (fun _ _ _ h => h) (Or.inl ⟨by rfl, ?y26A⟩) hS1 ?r26A
                case y26A => (intro w' hSw; obtain ⟨s1, s2, s3⟩ := HC6.out w' hSw; go_simp; try rfl)
                try simp only [Act.put, List.setIfInBounds_toArray, List.set_cons_zero, List.set_cons_succ]
                refine' wpAnyH_take (i := 27) (oi := ⟨some 100, _, _, _, _, _⟩) (v := _) rfl (by kernel_rfl) (by kernel_rfl) (by kernel_rfl) (fun _ _ _ h => h) (Or.inl ⟨by rfl, ?y27A⟩) hS1 ?r27A
                case y27A => (intro w' hSw; obtain ⟨s1, s2, s3⟩ := HC6.out w' hSw; go_simp; try rfl)
                try simp only [Act.put, List.setIfInBounds_toArray, List.set_cons_zero, List.set_cons_succ]
                refine' wpAnyH_take (i := 28) (oi := ⟨some 101, _, _, _, _, _⟩) (v := _) rfl (by kernel_rfl) (by kernel_rfl) (by kernel_rfl) (fun _ _ _ h => h) (Or.inl ⟨by rfl, ?y28A⟩) hS1 ?r28A
                case y28A => (intro w' hSw; obtain ⟨s1, s2, s3⟩ := HC6.out w' hSw; go_simp; try rfl)
                try simp only [Act.put, List.setIfInBounds_toArray, List.set_cons_zero, List.set_cons_succ]
                refine' wpAnyH_take (i := 29) (oi := ⟨some 102, _, _, _, _, _⟩) (v := _) rfl (by kernel_rfl) (by kernel_rfl) (by kernel_rfl) (fun _ _ _ h => h) (Or.inl ⟨by rfl, ?y29A⟩) hS1 ?r29A
                case y29A => (intro w' hSw; obtain ⟨s1, s2, s3⟩ := HC6.out w' hSw; go_simp; try rfl)
                try simp only [Act.put, List.setIfInBounds_toArray, List.set_cons_zero, List.set_cons_succ]
                refine' wpAnyH_take (i := 30) (oi := ⟨some 103, _, _, _, _, _⟩) (v := _) rfl (by kernel_rfl) (by kernel_rfl) (by kernel_rfl) (fun _ _ _ h => h) (Or.inl ⟨by rfl, ?y30A⟩) hS1 ?r30A
                case y30A => (intro w' hSw; obtain ⟨s1, s2, s3⟩ := HC6.out w' hSw; go_simp; try rfl)
                try simp only [Act.put, List.setIfInBounds_toArray, List.set_cons_zero, List.set_cons_succ]
                refine' wpAnyH_take (i := 31) (oi := ⟨some 104, _, _, _, _, _⟩) (v := _) rfl (by kernel_rfl) (by kernel_rfl) (by kernel_rfl) (fun _ _ _ h => h) (Or.inl ⟨by rfl, ?y31A⟩) hS1 ?r31A
                case y31A => (intro w' hSw; obtain ⟨s1, s2, s3⟩ := HC6.out w' hSw; go_simp; try rfl)
                try simp only [Act.put, List.setIfInBounds_toArray, List.set_cons_zero, List.set_cons_succ]
                refine' wpAnyH_take (i := 32) (oi := ⟨some 105, _, _, _, _, _⟩) (v := _) rfl (by kernel_rfl) (by kernel_rfl) (by kernel_rfl) (fun _ _ _ h => h) (Or.inl ⟨by rfl, ?y32A⟩) hS1 ?r32A
                case y32A => (intro w' hSw; obtain ⟨s1, s2, s3⟩ := HC6.out w' hSw; go_simp; try rfl)
                try simp only [Act.put, List.setIfInBounds_toArray, List.set_cons_zero, List.set_cons_succ]
                refine' wpAnyH_take (i := 33) (oi := ⟨some 106, _, _, _, _, _⟩) (v := _) rfl (by kernel_rfl) (by kernel_rfl) (by kernel_rfl) (fun _ _ _ h => h) (Or.inl ⟨by rfl, ?y33A⟩) hS1 ?r33A
                case y33A => (intro w' hSw; obtain ⟨s1, s2, s3⟩ := HC6.out w' hSw; go_simp; try rfl)
                try simp only [Act.put, List.setIfInBounds_toArray, List.set_cons_zero, List.set_cons_succ]
                refine' wpAnyH_take (i := 34) (oi := ⟨some 107, _, _, _, _, _⟩) (v := _) rfl (by kernel_rfl) (by kernel_rfl) (by kernel_rfl) (fun _ _ _ h => h) (Or.inl ⟨by rfl, ?y34A⟩) hS1 ?r34A
                case y34A => (intro w' hSw; obtain ⟨s1, s2, s3⟩ := HC6.out w' hSw; go_simp; try rfl)
                try simp only [Act.put, List.setIfInBounds_toArray, List.set_cons_zero, List.set_cons_succ]
                refine' wpAnyH_take (i := 35) (oi := ⟨some 108, _, _, _, _, _⟩) (v := undef) rfl (by kernel_rfl) (by kernel_rfl) (by kernel_rfl) (fun _ _ _ h => h) (Or.inr ⟨by rfl, rfl⟩) hS1 ?r35A
                try simp only [Act.put, List.setIfInBounds_toArray, List.set_cons_zero, List.set_cons_succ]
                refine' wpAnyH_take (i := 36) (oi := ⟨some 109, _, _, _, _, _⟩) (v := undef) rfl (by kernel_rfl) (by kernel_rfl) (by kernel_rfl) (fun _ _ _ h => h) (Or.inr ⟨by rfl, rfl⟩) hS1 ?r36A
                try simp only [Act.put, List.setIfInBounds_toArray, List.set_cons_zero, List.set_cons_succ]
                refine' wpAnyH_take (i := 37) (oi := ⟨some 110, _, _, _, _, _⟩) (v := undef) rfl (by kernel_rfl) (by kernel_rfl) (by kernel_rfl) (fun _ _ _ h => h) (Or.inr ⟨by rfl, rfl⟩) hS1 ?r37A
                try simp only [Act.put, List.setIfInBounds_toArray, List.set_cons_zero, List.set_cons_succ]
                refine' wpAnyH_take (i := 38) (oi := ⟨some 111, _, _, _, _, _⟩) (v := undef) rfl (by kernel_rfl) (by kernel_rfl) (by kernel_rfl) (fun _ _ _ h => h) (Or.inr ⟨by rfl, rfl⟩) hS1 ?r38A
                try simp only [Act.put, List.setIfInBounds_toArray, List.set_cons_zero, List.set_cons_succ]
                refine' wpAnyH_take (i := 39) (oi := ⟨some 112, _, _, _, _, _⟩) (v := undef) rfl (by kernel_rfl) (by kernel_rfl) (by kernel_rfl) (fun _ _ _ h => h) (Or.inr ⟨by rfl, rfl⟩) hS1 ?r39A
                try simp only [Act.put, List.setIfInBounds_toArray, List.set_cons_zero, List.set_cons_succ]
                refine' wpAnyH_take (i := 40) (oi := ⟨some 113, _, _, _, _, _⟩) (v := undef) rfl (by kernel_rfl) (by kernel_rfl) (by kernel_rfl) (fun _ _ _ h => h) (Or.inr ⟨by rfl, rfl⟩) hS1 ?r40A
                try simp only [Act.put, List.setIfInBounds_toArray, List.set_cons_zero, List.set_cons_succ]
                refine' wpAnyH_take (i := 41) (oi := ⟨some 114, _, _, _, _, _⟩) (v := undef) rfl (by kernel_rfl) (by kernel_rfl) (by kernel_rfl) (fun _ _ _ h => h) (Or.inr ⟨by rfl, rfl⟩) hS1 ?r41A
                try simp only [Act.put, List.setIfInBounds_toArray, List.set_cons_zero, List.set_cons_succ]
                refine' wpAnyH_take (i := 42) (oi := ⟨some 115, _, _, _, _, _⟩) (v := undef) rfl (by kernel_rfl) (by kernel_rfl) (by kernel_rfl) (fun _ _ _ h => h) (Or.inr ⟨by rfl, rfl⟩) hS1 ?r42A
                try simp only [Act.put, List.setIfInBounds_toArray, List.set_cons_zero, List.set_cons_succ]
                refine' wpAnyH_take (i := 43) (oi := ⟨some 116, _, _, _, _, _⟩) (v := _) rfl (by kernel_rfl) (by kernel_rfl) (by kernel_rfl) (fun _ _ _ h => h) (Or.inl ⟨by rfl, ?y43A⟩) hS1 ?r43A
                case y43A => (intro w' hSw; obtain ⟨s1, s2, s3⟩ := HC6.out w' hSw; go_simp; try rfl)
                try simp only [Act.put, List.setIfInBounds_toArray, List.set_cons_zero, List.set_cons_succ]
                refine' wpAnyH_take (i := 44) (oi := ⟨some 117, _, _, _, _, _⟩) (v := _) rfl (by kernel_rfl) (by kernel_rfl) (by kernel_rfl) (fun _ _ _ h => h) (Or.inl ⟨by rfl, ?y44A⟩) hS1 ?r44A
                case y44A => (intro w' hSw; obtain ⟨s1, s2, s3⟩ := HC6.out w' hSw; go_simp; try rfl)
                try simp only [Act.put, List.setIfInBounds_toArray, List.set_cons_zero, List.set_cons_succ]
                refine' wpAnyH_take (i := 45) (oi := ⟨some 118, _, _, _, _, _⟩) (v := undef) rfl (by kernel_rfl) (by kernel_rfl) (by kernel_rfl) (fun _ _ _ h => h) (Or.inr ⟨by rfl, rfl⟩) hS1 ?r45A
                try simp only [Act.put, List.setIfInBounds_toArray, List.set_cons_zero, List.set_cons_succ]
                refine' wpAnyH_take (i := 46) (oi := ⟨some 119, _, _, _, _, _⟩) (v := undef) rfl (by kernel_rfl) (by kernel_rfl) (by kernel_rfl) (fun _ _ _ h => h) (Or.inr ⟨by rfl, rfl⟩) hS1 ?r46A
                try simp only [Act.put, List.setIfInBounds_toArray, List.set_cons_zero, List.set_cons_succ]
                refine' wpAnyH_take (i := 47) (oi := ⟨some 120, _, _, _, _, _⟩) (v := undef) rfl (by kernel_rfl) (by kernel_rfl) (by kernel_rfl) (fun _ _ _ h => h) (Or.inr ⟨by rfl, rfl⟩) hS1 ?r47A
                try simp only [Act.put, List.setIfInBounds_toArray, List.set_cons_zero, List.set_cons_succ]
                refine' wpAnyH_take (i := 48) (oi := ⟨some 121, _, _, _, _, _⟩) (v := _) rfl (by kernel_rfl) (by kernel_rfl) (by kernel_rfl) (fun _ _ _ h => h) (Or.inl ⟨by rfl, ?y48A⟩) hS1 ?r48A
                case y48A => (intro w' hSw; obtain ⟨s1, s2, s3⟩ := HC6.out w' hSw; go_simp; try rfl)
                try simp only [Act.put, List.setIfInBounds_toArray, List.set_cons_zero, List.set_cons_succ]
                refine' wpAnyH_take (i := 49) (oi := ⟨some 122, _, _, _, _, _⟩) (v := _) rfl (by kernel_rfl) (by kernel_rfl) (by kernel_rfl) (fun _ _ _ h => h) (Or.inl ⟨by rfl, ?y49A⟩) hS1 ?r49A
                case y49A => (intro w' hSw; obtain ⟨s1, s2, s3⟩ := HC6.out w' hSw; go_simp; try rfl)
                try simp only [Act.put, List.setIfInBounds_toArray, List.set_cons_zero, List.set_cons_succ]
                refine wpAnyH_done (by kernel_rfl) ?_ _
                dsimp only [OnlyNormal]
                gi_wp2_with fail
                gi_meet
                exact ⟨rfl, HD6.out.trans (hS1.mono HD6.out.size)⟩
            · by_cases h5 : r.1 = 5
              · have h0b : (r.1 == 0) = false := by rw [beq_eq_false_iff_ne]; omega
                have h5b : (r.1 == 5) = true := by rw [beq_iff_eq]; exact h5
                by_cases hle : (s.b.length : Int) ≤ ro
                · have hled : decide ((s.b.length : Int) ≤ ro) = true := decide_eq_true hle
                  have h64 := HFACTS.out.2.1 hk1 h5 hle
                  clear h5 h0 hk1
                  as_aux_lemma =>
                    refine wpIn_only (wpIn_wide.2 ?_)
                    have HD6 := Lib.hid (show Below X6.heap.size X6 X6.drew from (Below.refl _ _).drew)
                    refine wp_region_held_drew (S := fun X => Below X6.drew.heap.size X6.drew X) hfo (Below.refl _ _) (fun hS0 => ?_)
                    have HC6 := Lib.hid (fun X (hX : Below X6.drew.heap.size X6.drew X) => HCC.out X (HD6.out.trans (hX.mono HD6.out.size)))
                    have HFULL := Lib.hid (show ∀ X, Below X6.drew.heap.size X6.drew X → Calls Try.prog 30 #[.pointer (some ⟨p5, 0, none⟩)] X fun e W' => e = .returned (.bool true) ∧ Below X.heap.size X W' from fun X hX => by
                      obtain ⟨m5, L5, e5, hd5, _⟩ := H6.out.1.below (HD6.out.trans (hX.mono HD6.out.size))
                      refine (full_any hd5).mono (fun e W' h => ⟨h.1.trans ?_, h.2⟩)
                      have : L5.length = 64 := by rw [← plain_len, e5]; exact h64
                      rw [decide_eq_true this])
                    clear h64
                    refine' wpAnyH_take (i := 0) (oi := ⟨some 73, _, _, _, _, _⟩) (v := _) rfl (by kernel_rfl) (by kernel_rfl) (by kernel_rfl) (fun _ _ _ h => h) (Or.inl ⟨by rfl, ?y0B⟩) hS0 ?r0B
                    case y0B => (intro w' hSw; obtain ⟨s1, s2, s3⟩ := HC6.out w' hSw; go_simp; try rfl)
                    try simp only [Act.put, List.setIfInBounds_toArray, List.set_cons_zero, List.set_cons_succ]
                    refine' wpAnyH_take (i := 1) (oi := ⟨some 74, _, _, _, _, _⟩) (v := _) rfl (by kernel_rfl) (by kernel_rfl) (by kernel_rfl) (fun _ _ _ h => h) (Or.inl ⟨by rfl, ?y1B⟩) hS0 ?r1B
                    case y1B => (intro w' hSw; obtain ⟨s1, s2, s3⟩ := HC6.out w' hSw; go_simp; try rfl)
                    try simp only [Act.put, List.setIfInBounds_toArray, List.set_cons_zero, List.set_cons_succ]
                    refine' wpAnyH_take (i := 2) (oi := ⟨some 75, _, _, _, _, _⟩) (v := _) rfl (by kernel_rfl) (by kernel_rfl) (by kernel_rfl) (fun _ _ _ h => h) (Or.inl ⟨by rfl, ?y2B⟩) hS0 ?r2B
                    case y2B => (intro w' hSw; obtain ⟨s1, s2, s3⟩ := HC6.out w' hSw; go_simp; try rfl)
                    try simp only [Act.put, List.setIfInBounds_toArray, List.set_cons_zero, List.set_cons_succ]
                    refine' wpAnyH_take (i := 3) (oi := ⟨some 76, _, _, _, _, _⟩) (v := _) rfl (by kernel_rfl) (by kernel_rfl) (by kernel_rfl) (fun _ _ _ h => h) (Or.inl ⟨by rfl, ?y3B⟩) hS0 ?r3B
                    case y3B => (intro w' hSw; obtain ⟨s1, s2, s3⟩ := HC6.out w' hSw; go_simp; try rfl)
                    try simp only [Act.put, List.setIfInBounds_toArray, List.set_cons_zero, List.set_cons_succ]
                    refine' wpAnyH_take (i := 4) (oi := ⟨some 77, _, _, _, _, _⟩) (v := _) rfl (by kernel_rfl) (by kernel_rfl) (by kernel_rfl) (fun _ _ _ h => h) (Or.inl ⟨by rfl, ?y4B⟩) hS0 ?r4B
                    case y4B => (intro w' hSw; obtain ⟨s1, s2, s3⟩ := HC6.out w' hSw; go_simp; try rfl)
                    try simp only [Act.put, List.setIfInBounds_toArray, List.set_cons_zero, List.set_cons_succ]
                    refine' wpAnyH_take (i := 5) (oi := ⟨some 78, _, _, _, _, _⟩) (v := _) rfl (by kernel_rfl) (by kernel_rfl) (by kernel_rfl) (fun _ _ _ h => h) (Or.inl ⟨by rfl, ?y5B⟩) hS0 ?r5B
                    case y5B => (intro w' hSw; obtain ⟨s1, s2, s3⟩ := HC6.out w' hSw; go_simp; try rfl)
                    try simp only [Act.put, List.setIfInBounds_toArray, List.set_cons_zero, List.set_cons_succ]
                    refine' wpAnyH_take (i := 6) (oi := ⟨some 79, _, _, _, _, _⟩) (v := _) rfl (by kernel_rfl) (by kernel_rfl) (by kernel_rfl) (fun _ _ _ h => h) (Or.inl ⟨by rfl, ?y6B⟩) hS0 ?r6B
                    case y6B => (intro w' hSw; obtain ⟨s1, s2, s3⟩ := HC6.out w' hSw; go_simp; try rfl)
                    try simp only [Act.put, List.setIfInBounds_toArray, List.set_cons_zero, List.set_cons_succ]
                    refine' wpAnyH_take (i := 7) (oi := ⟨some 80, _, _, _, _, _⟩) (v := _) rfl (by kernel_rfl) (by kernel_rfl) (by kernel_rfl) (fun _ _ _ h => h) (Or.inl ⟨by rfl, ?y7B⟩) hS0 ?r7B
                    case y7B => (intro w' hSw; obtain ⟨s1, s2, s3⟩ := HC6.out w' hSw; go_simp; try rfl)
                    try simp only [Act.put, List.setIfInBounds_toArray, List.set_cons_zero, List.set_cons_succ]
                    refine' wpAnyH_take (i := 8) (oi := ⟨some 81, _, _, _, _, _⟩) (v := _) rfl (by kernel_rfl) (by kernel_rfl) (by kernel_rfl) (fun _ _ _ h => h) (Or.inl ⟨by rfl, ?y8B⟩) hS0 ?r8B
                    case y8B => (intro w' hSw; obtain ⟨s1, s2, s3⟩ := HC6.out w' hSw; go_simp; try rfl)
                    try simp only [Act.put, List.setIfInBounds_toArray, List.set_cons_zero, List.set_cons_succ]
                    refine' wpAnyH_take (i := 9) (oi := ⟨some 82, _, _, _, _, _⟩) (v := _) rfl (by kernel_rfl) (by kernel_rfl) (by kernel_rfl) (fun _ _ _ h => h) (Or.inl ⟨by rfl, ?y9B⟩) hS0 ?r9B
                    case y9B => (intro w' hSw; obtain ⟨s1, s2, s3⟩ := HC6.out w' hSw; go_simp; try rfl)
                    try simp only [Act.put, List.setIfInBounds_toArray, List.set_cons_zero, List.set_cons_succ]
                    refine' wpAnyH_take (i := 10) (oi := ⟨some 83, _, _, _, _, _⟩) (v := _) rfl (by kernel_rfl) (by kernel_rfl) (by kernel_rfl) (fun _ _ _ h => h) (Or.inl ⟨by rfl, ?y10B⟩) hS0 ?r10B
                    case y10B => (intro w' hSw; obtain ⟨s1, s2, s3⟩ := HC6.out w' hSw; go_simp; try rfl)
                    try simp only [Act.put, List.setIfInBounds_toArray, List.set_cons_zero, List.set_cons_succ]
                    refine' wpAnyH_take (i := 11) (oi := ⟨some 84, _, _, _, _, _⟩) (v := undef) rfl (by kernel_rfl) (by kernel_rfl) (by kernel_rfl) (fun _ _ _ h => h) (Or.inr ⟨by rfl, rfl⟩) hS0 ?r11B
                    try simp only [Act.put, List.setIfInBounds_toArray, List.set_cons_zero, List.set_cons_succ]
                    refine' wpAnyH_take (i := 12) (oi := ⟨some 85, _, _, _, _, _⟩) (v := undef) rfl (by kernel_rfl) (by kernel_rfl) (by kernel_rfl) (fun _ _ _ h => h) (Or.inr ⟨by rfl, rfl⟩) hS0 ?r12B
                    try simp only [Act.put, List.setIfInBounds_toArray, List.set_cons_zero, List.set_cons_succ]
                    refine' wpAnyH_take (i := 13) (oi := ⟨some 86, _, _, _, _, _⟩) (v := undef) rfl (by kernel_rfl) (by kernel_rfl) (by kernel_rfl) (fun _ _ _ h => h) (Or.inr ⟨by rfl, rfl⟩) hS0 ?r13B
                    try simp only [Act.put, List.setIfInBounds_toArray, List.set_cons_zero, List.set_cons_succ]
                    refine' wpAnyH_take (i := 14) (oi := ⟨some 87, _, _, _, _, _⟩) (v := undef) rfl (by kernel_rfl) (by kernel_rfl) (by kernel_rfl) (fun _ _ _ h => h) (Or.inr ⟨by rfl, rfl⟩) hS0 ?r14B
                    try simp only [Act.put, List.setIfInBounds_toArray, List.set_cons_zero, List.set_cons_succ]
                    refine' wpAnyH_take (i := 15) (oi := ⟨some 88, _, _, _, _, _⟩) (v := undef) rfl (by kernel_rfl) (by kernel_rfl) (by kernel_rfl) (fun _ _ _ h => h) (Or.inr ⟨by rfl, rfl⟩) hS0 ?r15B
                    try simp only [Act.put, List.setIfInBounds_toArray, List.set_cons_zero, List.set_cons_succ]
                    refine' wpAnyH_take (i := 16) (oi := ⟨some 89, _, _, _, _, _⟩) (v := undef) rfl (by kernel_rfl) (by kernel_rfl) (by kernel_rfl) (fun _ _ _ h => h) (Or.inr ⟨by rfl, rfl⟩) hS0 ?r16B
                    try simp only [Act.put, List.setIfInBounds_toArray, List.set_cons_zero, List.set_cons_succ]
                    refine' wpAnyH_take (i := 17) (oi := ⟨some 90, _, _, _, _, _⟩) (v := undef) rfl (by kernel_rfl) (by kernel_rfl) (by kernel_rfl) (fun _ _ _ h => h) (Or.inr ⟨by rfl, rfl⟩) hS0 ?r17B
                    try simp only [Act.put, List.setIfInBounds_toArray, List.set_cons_zero, List.set_cons_succ]
                    refine' wpAnyH_take (i := 18) (oi := ⟨some 91, _, _, _, _, _⟩) (v := undef) rfl (by kernel_rfl) (by kernel_rfl) (by kernel_rfl) (fun _ _ _ h => h) (Or.inr ⟨by rfl, rfl⟩) hS0 ?r18B
                    try simp only [Act.put, List.setIfInBounds_toArray, List.set_cons_zero, List.set_cons_succ]
                    refine' wpAnyH_take (i := 19) (oi := ⟨some 92, _, _, _, _, _⟩) (v := undef) rfl (by kernel_rfl) (by kernel_rfl) (by kernel_rfl) (fun _ _ _ h => h) (Or.inr ⟨by rfl, rfl⟩) hS0 ?r19B
                    try simp only [Act.put, List.setIfInBounds_toArray, List.set_cons_zero, List.set_cons_succ]
                    refine' wpAnyH_take (i := 20) (oi := ⟨some 93, _, _, _, _, _⟩) (v := undef) rfl (by kernel_rfl) (by kernel_rfl) (by kernel_rfl) (fun _ _ _ h => h) (Or.inr ⟨by rfl, rfl⟩) hS0 ?r20B
                    try simp only [Act.put, List.setIfInBounds_toArray, List.set_cons_zero, List.set_cons_succ]
                    refine' wpAnyH_take (i := 21) (oi := ⟨some 94, _, _, _, _, _⟩) (v := undef) rfl (by kernel_rfl) (by kernel_rfl) (by kernel_rfl) (fun _ _ _ h => h) (Or.inr ⟨by rfl, rfl⟩) hS0 ?r21B
                    try simp only [Act.put, List.setIfInBounds_toArray, List.set_cons_zero, List.set_cons_succ]
                    refine' wpAnyH_take (i := 22) (oi := ⟨some 95, _, _, _, _, _⟩) (v := _) rfl (by kernel_rfl) (by kernel_rfl) (by kernel_rfl) (fun _ _ _ h => h) (Or.inl ⟨by rfl, ?y22B⟩) hS0 ?r22B
                    case y22B => (intro w' hSw; obtain ⟨s1, s2, s3⟩ := HC6.out w' hSw; go_simp; try rfl)
                    try simp only [Act.put, List.setIfInBounds_toArray, List.set_cons_zero, List.set_cons_succ]
                    refine' wpAnyH_take (i := 23) (oi := ⟨some 96, _, _, _, _, _⟩) (v := _) rfl (by kernel_rfl) (by kernel_rfl) (by kernel_rfl) (fun _ _ _ h => h) (Or.inl ⟨by rfl, ?y23B⟩) hS0 ?r23B
                    case y23B => (intro w' hSw; obtain ⟨s1, s2, s3⟩ := HC6.out w' hSw; go_simp; try rfl)
                    try simp only [Act.put, List.setIfInBounds_toArray, List.set_cons_zero, List.set_cons_succ]
                    refine' wpAnyH_take (i := 24) (oi := ⟨some 97, _, _, _, _, _⟩) (v := _) rfl (by kernel_rfl) (by kernel_rfl) (by kernel_rfl) (fun _ _ _ h => h) (Or.inl ⟨by rfl, ?y24B⟩) hS0 ?r24B
                    case y24B => (intro w' hSw; obtain ⟨s1, s2, s3⟩ := HC6.out w' hSw; go_simp; try rfl)
                    try simp only [Act.put, List.setIfInBounds_toArray, List.set_cons_zero, List.set_cons_succ]
                    refine' wpAnyH_take (i := 25) (oi := ⟨some 98, _, _, _, _, _⟩) (v := _) rfl (by kernel_rfl) (by kernel_rfl) (by kernel_rfl) (fun _ _ _ h => h) (Or.inl ⟨by rfl, ?y25B⟩) hS0 ?r25B
                    case y25B => (intro w' hSw; obtain ⟨s1, s2, s3⟩ := HC6.out w' hSw; go_simp; try rfl)
                    try simp only [Act.put, List.setIfInBounds_toArray, List.set_cons_zero, List.set_cons_succ]
                    refine' wpAnyH_take (i := 26) (oi := ⟨some 99, _, _, _, _, _⟩) (v := _) rfl (by kernel_rfl) (by kernel_rfl) (by kernel_rfl) (fun _ _ _ h => h) (Or.inl ⟨by rfl, ?y26B⟩) hS0 ?r26B
                    case y26B => (intro w' hSw; obtain ⟨s1, s2, s3⟩ := HC6.out w' hSw; go_simp; try rfl)
                    try simp only [Act.put, List.setIfInBounds_toArray, List.set_cons_zero, List.set_cons_succ]
                    refine' wpAnyH_take (i := 27) (oi := ⟨some 100, _, _, _, _, _⟩) (v := _) rfl (by kernel_rfl) (by kernel_rfl) (by kernel_rfl) (fun _ _ _ h => h) (Or.inl ⟨by rfl, ?y27B⟩) hS0 ?r27B
                    case y27B => (intro w' hSw; obtain ⟨s1, s2, s3⟩ := HC6.out w' hSw; go_simp; try rfl)
                    try simp only [Act.put, List.setIfInBounds_toArray, List.set_cons_zero, List.set_cons_succ]
                    refine' wpAnyH_take (i := 28) (oi := ⟨some 101, _, _, _, _, _⟩) (v := _) rfl (by kernel_rfl) (by kernel_rfl) (by kernel_rfl) (fun _ _ _ h => h) (Or.inl ⟨by rfl, ?y28B⟩) hS0 ?r28B
                    case y28B => (intro w' hSw; obtain ⟨s1, s2, s3⟩ := HC6.out w' hSw; go_simp; try rfl)
                    try simp only [Act.put, List.setIfInBounds_toArray, List.set_cons_zero, List.set_cons_succ]
                    refine' wpAnyH_take (i := 29) (oi := ⟨some 102, _, _, _, _, _⟩) (v := _) rfl (by kernel_rfl) (by kernel_rfl) (by kernel_rfl) (fun _ _ _ h => h) (Or.inl ⟨by rfl, ?y29B⟩) hS0 ?r29B
                    case y29B => (intro w' hSw; obtain ⟨s1, s2, s3⟩ := HC6.out w' hSw; go_simp; try rfl)
                    try simp only [Act.put, List.setIfInBounds_toArray, List.set_cons_zero, List.set_cons_succ]
                    refine' wpAnyH_take (i := 30) (oi := ⟨some 103, _, _, _, _, _⟩) (v := _) rfl (by kernel_rfl) (by kernel_rfl) (by kernel_rfl) (fun _ _ _ h => h) (Or.inl ⟨by rfl, ?y30B⟩) hS0 ?r30B
                    case y30B => (intro w' hSw; obtain ⟨s1, s2, s3⟩ := HC6.out w' hSw; go_simp; try rfl)
                    try simp only [Act.put, List.setIfInBounds_toArray, List.set_cons_zero, List.set_cons_succ]
                    refine' wpAnyH_take (i := 31) (oi := ⟨some 104, _, _, _, _, _⟩) (v := _) rfl (by kernel_rfl) (by kernel_rfl) (by kernel_rfl) (fun _ _ _ h => h) (Or.inl ⟨by rfl, ?y31B⟩) hS0 ?r31B
                    case y31B => (intro w' hSw; obtain ⟨s1, s2, s3⟩ := HC6.out w' hSw; go_simp; try rfl)
                    try simp only [Act.put, List.setIfInBounds_toArray, List.set_cons_zero, List.set_cons_succ]
                    refine' wpAnyH_take (i := 32) (oi := ⟨some 105, _, _, _, _, _⟩) (v := _) rfl (by kernel_rfl) (by kernel_rfl) (by kernel_rfl) (fun _ _ _ h => h) (Or.inl ⟨by rfl, ?y32B⟩) hS0 ?r32B
                    case y32B => (intro w' hSw; obtain ⟨s1, s2, s3⟩ := HC6.out w' hSw; go_simp; try rfl)
                    try simp only [Act.put, List.setIfInBounds_toArray, List.set_cons_zero, List.set_cons_succ]
                    refine' wpAnyH_take (i := 33) (oi := ⟨some 106, _, _, _, _, _⟩) (v := _) rfl (by kernel_rfl) (by kernel_rfl) (by kernel_rfl) (fun _ _ _ h => h) (Or.inl ⟨by rfl, ?y33B⟩) hS0 ?r33B
                    case y33B => (intro w' hSw; obtain ⟨s1, s2, s3⟩ := HC6.out w' hSw; go_simp; try rfl)
                    try simp only [Act.put, List.setIfInBounds_toArray, List.set_cons_zero, List.set_cons_succ]
                    refine' wpAnyH_take (i := 34) (oi := ⟨some 107, _, _, _, _, _⟩) (v := _) rfl (by kernel_rfl) (by kernel_rfl) (by kernel_rfl) (fun _ _ _ h => h) (Or.inl ⟨by rfl, ?y34B⟩) hS0 ?r34B
                    case y34B => (intro w' hSw; obtain ⟨s1, s2, s3⟩ := HC6.out w' hSw; go_simp; try rfl)
                    try simp only [Act.put, List.setIfInBounds_toArray, List.set_cons_zero, List.set_cons_succ]
                    refine' wpAnyH_take (i := 35) (oi := ⟨some 108, _, _, _, _, _⟩) (v := _) rfl (by kernel_rfl) (by kernel_rfl) (by kernel_rfl) (fun _ _ _ h => h) (Or.inl ⟨by rfl, ?y35B⟩) hS0 ?r35B
                    case y35B => (intro w' hSw; obtain ⟨s1, s2, s3⟩ := HC6.out w' hSw; go_simp; try rfl)
                    try simp only [Act.put, List.setIfInBounds_toArray, List.set_cons_zero, List.set_cons_succ]
                    refine' wpAnyH_take (i := 36) (oi := ⟨some 109, _, _, _, _, _⟩) (v := _) rfl (by kernel_rfl) (by kernel_rfl) (by kernel_rfl) (fun _ _ _ h => h) (Or.inl ⟨by rfl, ?y36B⟩) hS0 ?r36B
                    case y36B => (intro w' hSw; obtain ⟨s1, s2, s3⟩ := HC6.out w' hSw; go_simp; try rfl)
                    try simp only [Act.put, List.setIfInBounds_toArray, List.set_cons_zero, List.set_cons_succ]
                    refine' wpAnyH_take (i := 37) (oi := ⟨some 110, _, _, _, _, _⟩) (v := _) rfl (by kernel_rfl) (by kernel_rfl) (by kernel_rfl) (fun _ _ _ h => h) (Or.inl ⟨by rfl, ?y37B⟩) hS0 ?r37B
                    case y37B => (intro w' hSw; obtain ⟨s1, s2, s3⟩ := HC6.out w' hSw; go_simp; try rfl)
                    try simp only [Act.put, List.setIfInBounds_toArray, List.set_cons_zero, List.set_cons_succ]
                    refine' wpAnyH_take (i := 38) (oi := ⟨some 111, _, _, _, _, _⟩) (v := _) rfl (by kernel_rfl) (by kernel_rfl) (by kernel_rfl) (fun _ _ _ h => h) (Or.inl ⟨by rfl, ?y38B⟩) hS0 ?r38B
                    case y38B => (intro w' hSw; obtain ⟨s1, s2, s3⟩ := HC6.out w' hSw; go_simp; try rfl)
                    try simp only [Act.put, List.setIfInBounds_toArray, List.set_cons_zero, List.set_cons_succ]
                    refine' wpAnyH_take (i := 39) (oi := ⟨some 112, _, _, _, _, _⟩) (v := _) rfl (by kernel_rfl) (by kernel_rfl) (by kernel_rfl) (fun _ _ _ h => h) (Or.inl ⟨by rfl, ?y39B⟩) hS0 ?r39B
                    case y39B => (intro w' hSw; obtain ⟨s1, s2, s3⟩ := HC6.out w' hSw; go_simp; try rfl)
                    try simp only [Act.put, List.setIfInBounds_toArray, List.set_cons_zero, List.set_cons_succ]
                    refine' wpAnyH_take (i := 40) (oi := ⟨some 113, _, _, _, _, _⟩) (v := _) rfl (by kernel_rfl) (by kernel_rfl) (by kernel_rfl) (fun _ _ _ h => h) (Or.inl ⟨by rfl, ?y40B⟩) hS0 ?r40B
                    case y40B => (intro w' hSw; obtain ⟨s1, s2, s3⟩ := HC6.out w' hSw; go_simp; try rfl)
                    try simp only [Act.put, List.setIfInBounds_toArray, List.set_cons_zero, List.set_cons_succ]
                    refine' wpAnyH_take (i := 41) (oi := ⟨some 114, _, _, _, _, _⟩) (v := _) rfl (by kernel_rfl) (by kernel_rfl) (by kernel_rfl) (fun _ _ _ h => h) (Or.inl ⟨by rfl, ?y41B⟩) hS0 ?r41B
                    case y41B => (intro w' hSw; obtain ⟨s1, s2, s3⟩ := HC6.out w' hSw; go_simp; try rfl)
                    try simp only [Act.put, List.setIfInBounds_toArray, List.set_cons_zero, List.set_cons_succ]
                    refine' wpAnyH_take (i := 42) (oi := ⟨some 115, _, _, _, _, _⟩) (v := _) rfl (by kernel_rfl) (by kernel_rfl) (by kernel_rfl) (fun _ _ _ h => h) (Or.inl ⟨by rfl, ?y42B⟩) hS0 ?r42B
                    case y42B => (intro w' hSw; obtain ⟨s1, s2, s3⟩ := HC6.out w' hSw; go_simp; try rfl)
                    try simp only [Act.put, List.setIfInBounds_toArray, List.set_cons_zero, List.set_cons_succ]
                    refine' wpAnyH_take (i := 43) (oi := ⟨some 116, _, _, _, _, _⟩) (v := _) rfl (by kernel_rfl) (by kernel_rfl) (by kernel_rfl) (fun _ _ _ h => h) (Or.inl ⟨by rfl, ?y43B⟩) hS0 ?r43B
                    case y43B => (intro w' hSw; obtain ⟨s1, s2, s3⟩ := HC6.out w' hSw; go_simp; try rfl)
                    try simp only [Act.put, List.setIfInBounds_toArray, List.set_cons_zero, List.set_cons_succ]
                    refine' wpAnyH_take (i := 44) (oi := ⟨some 117, _, _, _, _, _⟩) (v := _) rfl (by kernel_rfl) (by kernel_rfl) (by kernel_rfl) (fun _ _ _ h => h) (Or.inl ⟨by rfl, ?y44B⟩) hS0 ?r44B
                    case y44B => (intro w' hSw; obtain ⟨s1, s2, s3⟩ := HC6.out w' hSw; go_simp; try rfl)
                    try simp only [Act.put, List.setIfInBounds_toArray, List.set_cons_zero, List.set_cons_succ]
                    refine' wpAnyH_take (i := 45) (oi := ⟨some 118, _, _, _, _, _⟩) (v := _) rfl (by kernel_rfl) (by kernel_rfl) (by kernel_rfl) (fun _ _ _ h => h) (Or.inl ⟨by rfl, ?y45B⟩) hS0 ?r45B
                    case y45B => (intro w' hSw; obtain ⟨s1, s2, s3⟩ := HC6.out w' hSw; go_simp; try rfl)
                    try simp only [Act.put, List.setIfInBounds_toArray, List.set_cons_zero, List.set_cons_succ]
                    refine held_one (i := 46) (by kernel_rfl) rfl (fun K hK => ?_)
                    go_simp
                    refine (HFULL.out _ hS0).mono ?_
                    rintro e Z2 ⟨rfl, hz2⟩
                    have hS1 := hS0.trans (hz2.mono hS0.size)
                    clear hz2
                    refine hK.out _ _ hS1 (fun _ => ?_)
                    clear hK K
                    try simp only [Act.put, List.setIfInBounds_toArray, List.set_cons_zero, List.set_cons_succ]
                    refine' wpAnyH_take (i := 47) (oi := ⟨some 120, _, _, _, _, _⟩) (v := _) rfl (by kernel_rfl) (by kernel_rfl) (by kernel_rfl) (fun _ _ _ h => h) (Or.inl ⟨by rfl, ?y47B⟩) hS1 ?r47B
                    case y47B => (intro w' hSw; obtain ⟨s1, s2, s3⟩ := HC6.out w' hSw; go_simp; try rfl)
                    try simp only [Act.put, List.setIfInBounds_toArray, List.set_cons_zero, List.set_cons_succ]
                    refine' wpAnyH_take (i := 48) (oi := ⟨some 121, _, _, _, _, _⟩) (v := _) rfl (by kernel_rfl) (by kernel_rfl) (by kernel_rfl) (fun _ _ _ h => h) (Or.inl ⟨by rfl, ?y48B⟩) hS1 ?r48B
                    case y48B => (intro w' hSw; obtain ⟨s1, s2, s3⟩ := HC6.out w' hSw; go_simp; try rfl)
                    try simp only [Act.put, List.setIfInBounds_toArray, List.set_cons_zero, List.set_cons_succ]
                    refine' wpAnyH_take (i := 49) (oi := ⟨some 122, _, _, _, _, _⟩) (v := _) rfl (by kernel_rfl) (by kernel_rfl) (by kernel_rfl) (fun _ _ _ h => h) (Or.inl ⟨by rfl, ?y49B⟩) hS1 ?r49B
                    case y49B => (intro w' hSw; obtain ⟨s1, s2, s3⟩ := HC6.out w' hSw; go_simp; try rfl)
                    try simp only [Act.put, List.setIfInBounds_toArray, List.set_cons_zero, List.set_cons_succ]
                    refine wpAnyH_done (by kernel_rfl) ?_ _
                    dsimp only [OnlyNormal]
                    gi_wp2_with fail
                    gi_meet
                    exact ⟨rfl, HD6.out.trans (hS1.mono HD6.out.size)⟩
                · have hled : decide ((s.b.length : Int) ≤ ro) = false := decide_eq_false hle
                  clear h5 h0 hk1 hle
                  as_aux_lemma =>
                    refine wpIn_only (wpIn_wide.2 ?_)
                    have HD6 := Lib.hid (show Below X6.heap.size X6 X6.drew from (Below.refl _ _).drew)
                    refine wp_region_held_drew (S := fun X => Below X6.drew.heap.size X6.drew X) hfo (Below.refl _ _) (fun hS0 => ?_)
                    have HC6 := Lib.hid (fun X (hX : Below X6.drew.heap.size X6.drew X) => HCC.out X (HD6.out.trans (hX.mono HD6.out.size)))
                    refine' wpAnyH_take (i := 0) (oi := ⟨some 73, _, _, _, _, _⟩) (v := _) rfl (by kernel_rfl) (by kernel_rfl) (by kernel_rfl) (fun _ _ _ h => h) (Or.inl ⟨by rfl, ?y0C⟩) hS0 ?r0C
                    case y0C => (intro w' hSw; obtain ⟨s1, s2, s3⟩ := HC6.out w' hSw; go_simp; try rfl)
                    try simp only [Act.put, List.setIfInBounds_toArray, List.set_cons_zero, List.set_cons_succ]
                    refine' wpAnyH_take (i := 1) (oi := ⟨some 74, _, _, _, _, _⟩) (v := _) rfl (by kernel_rfl) (by kernel_rfl) (by kernel_rfl) (fun _ _ _ h => h) (Or.inl ⟨by rfl, ?y1C⟩) hS0 ?r1C
                    case y1C => (intro w' hSw; obtain ⟨s1, s2, s3⟩ := HC6.out w' hSw; go_simp; try rfl)
                    try simp only [Act.put, List.setIfInBounds_toArray, List.set_cons_zero, List.set_cons_succ]
                    refine' wpAnyH_take (i := 2) (oi := ⟨some 75, _, _, _, _, _⟩) (v := _) rfl (by kernel_rfl) (by kernel_rfl) (by kernel_rfl) (fun _ _ _ h => h) (Or.inl ⟨by rfl, ?y2C⟩) hS0 ?r2C
                    case y2C => (intro w' hSw; obtain ⟨s1, s2, s3⟩ := HC6.out w' hSw; go_simp; try rfl)
                    try simp only [Act.put, List.setIfInBounds_toArray, List.set_cons_zero, List.set_cons_succ]
                    refine' wpAnyH_take (i := 3) (oi := ⟨some 76, _, _, _, _, _⟩) (v := _) rfl (by kernel_rfl) (by kernel_rfl) (by kernel_rfl) (fun _ _ _ h => h) (Or.inl ⟨by rfl, ?y3C⟩) hS0 ?r3C
                    case y3C => (intro w' hSw; obtain ⟨s1, s2, s3⟩ := HC6.out w' hSw; go_simp; try rfl)
                    try simp only [Act.put, List.setIfInBounds_toArray, List.set_cons_zero, List.set_cons_succ]
                    refine' wpAnyH_take (i := 4) (oi := ⟨some 77, _, _, _, _, _⟩) (v := _) rfl (by kernel_rfl) (by kernel_rfl) (by kernel_rfl) (fun _ _ _ h => h) (Or.inl ⟨by rfl, ?y4C⟩) hS0 ?r4C
                    case y4C => (intro w' hSw; obtain ⟨s1, s2, s3⟩ := HC6.out w' hSw; go_simp; try rfl)
                    try simp only [Act.put, List.setIfInBounds_toArray, List.set_cons_zero, List.set_cons_succ]
                    refine' wpAnyH_take (i := 5) (oi := ⟨some 78, _, _, _, _, _⟩) (v := _) rfl (by kernel_rfl) (by kernel_rfl) (by kernel_rfl) (fun _ _ _ h => h) (Or.inl ⟨by rfl, ?y5C⟩) hS0 ?r5C
                    case y5C => (intro w' hSw; obtain ⟨s1, s2, s3⟩ := HC6.out w' hSw; go_simp; try rfl)
                    try simp only [Act.put, List.setIfInBounds_toArray, List.set_cons_zero, List.set_cons_succ]
                    refine' wpAnyH_take (i := 6) (oi := ⟨some 79, _, _, _, _, _⟩) (v := _) rfl (by kernel_rfl) (by kernel_rfl) (by kernel_rfl) (fun _ _ _ h => h) (Or.inl ⟨by rfl, ?y6C⟩) hS0 ?r6C
                    case y6C => (intro w' hSw; obtain ⟨s1, s2, s3⟩ := HC6.out w' hSw; go_simp; try rfl)
                    try simp only [Act.put, List.setIfInBounds_toArray, List.set_cons_zero, List.set_cons_succ]
                    refine' wpAnyH_take (i := 7) (oi := ⟨some 80, _, _, _, _, _⟩) (v := _) rfl (by kernel_rfl) (by kernel_rfl) (by kernel_rfl) (fun _ _ _ h => h) (Or.inl ⟨by rfl, ?y7C⟩) hS0 ?r7C
                    case y7C => (intro w' hSw; obtain ⟨s1, s2, s3⟩ := HC6.out w' hSw; go_simp; try rfl)
                    try simp only [Act.put, List.setIfInBounds_toArray, List.set_cons_zero, List.set_cons_succ]
                    refine' wpAnyH_take (i := 8) (oi := ⟨some 81, _, _, _, _, _⟩) (v := _) rfl (by kernel_rfl) (by kernel_rfl) (by kernel_rfl) (fun _ _ _ h => h) (Or.inl ⟨by rfl, ?y8C⟩) hS0 ?r8C
                    case y8C => (intro w' hSw; obtain ⟨s1, s2, s3⟩ := HC6.out w' hSw; go_simp; try rfl)
                    try simp only [Act.put, List.setIfInBounds_toArray, List.set_cons_zero, List.set_cons_succ]
                    refine' wpAnyH_take (i := 9) (oi := ⟨some 82, _, _, _, _, _⟩) (v := _) rfl (by kernel_rfl) (by kernel_rfl) (by kernel_rfl) (fun _ _ _ h => h) (Or.inl ⟨by rfl, ?y9C⟩) hS0 ?r9C
                    case y9C => (intro w' hSw; obtain ⟨s1, s2, s3⟩ := HC6.out w' hSw; go_simp; try rfl)
                    try simp only [Act.put, List.setIfInBounds_toArray, List.set_cons_zero, List.set_cons_succ]
                    refine' wpAnyH_take (i := 10) (oi := ⟨some 83, _, _, _, _, _⟩) (v := _) rfl (by kernel_rfl) (by kernel_rfl) (by kernel_rfl) (fun _ _ _ h => h) (Or.inl ⟨by rfl, ?y10C⟩) hS0 ?r10C
                    case y10C => (intro w' hSw; obtain ⟨s1, s2, s3⟩ := HC6.out w' hSw; go_simp; try rfl)
                    try simp only [Act.put, List.setIfInBounds_toArray, List.set_cons_zero, List.set_cons_succ]
                    refine' wpAnyH_take (i := 11) (oi := ⟨some 84, _, _, _, _, _⟩) (v := undef) rfl (by kernel_rfl) (by kernel_rfl) (by kernel_rfl) (fun _ _ _ h => h) (Or.inr ⟨by rfl, rfl⟩) hS0 ?r11C
                    try simp only [Act.put, List.setIfInBounds_toArray, List.set_cons_zero, List.set_cons_succ]
                    refine' wpAnyH_take (i := 12) (oi := ⟨some 85, _, _, _, _, _⟩) (v := undef) rfl (by kernel_rfl) (by kernel_rfl) (by kernel_rfl) (fun _ _ _ h => h) (Or.inr ⟨by rfl, rfl⟩) hS0 ?r12C
                    try simp only [Act.put, List.setIfInBounds_toArray, List.set_cons_zero, List.set_cons_succ]
                    refine' wpAnyH_take (i := 13) (oi := ⟨some 86, _, _, _, _, _⟩) (v := undef) rfl (by kernel_rfl) (by kernel_rfl) (by kernel_rfl) (fun _ _ _ h => h) (Or.inr ⟨by rfl, rfl⟩) hS0 ?r13C
                    try simp only [Act.put, List.setIfInBounds_toArray, List.set_cons_zero, List.set_cons_succ]
                    refine' wpAnyH_take (i := 14) (oi := ⟨some 87, _, _, _, _, _⟩) (v := undef) rfl (by kernel_rfl) (by kernel_rfl) (by kernel_rfl) (fun _ _ _ h => h) (Or.inr ⟨by rfl, rfl⟩) hS0 ?r14C
                    try simp only [Act.put, List.setIfInBounds_toArray, List.set_cons_zero, List.set_cons_succ]
                    refine' wpAnyH_take (i := 15) (oi := ⟨some 88, _, _, _, _, _⟩) (v := undef) rfl (by kernel_rfl) (by kernel_rfl) (by kernel_rfl) (fun _ _ _ h => h) (Or.inr ⟨by rfl, rfl⟩) hS0 ?r15C
                    try simp only [Act.put, List.setIfInBounds_toArray, List.set_cons_zero, List.set_cons_succ]
                    refine' wpAnyH_take (i := 16) (oi := ⟨some 89, _, _, _, _, _⟩) (v := undef) rfl (by kernel_rfl) (by kernel_rfl) (by kernel_rfl) (fun _ _ _ h => h) (Or.inr ⟨by rfl, rfl⟩) hS0 ?r16C
                    try simp only [Act.put, List.setIfInBounds_toArray, List.set_cons_zero, List.set_cons_succ]
                    refine' wpAnyH_take (i := 17) (oi := ⟨some 90, _, _, _, _, _⟩) (v := undef) rfl (by kernel_rfl) (by kernel_rfl) (by kernel_rfl) (fun _ _ _ h => h) (Or.inr ⟨by rfl, rfl⟩) hS0 ?r17C
                    try simp only [Act.put, List.setIfInBounds_toArray, List.set_cons_zero, List.set_cons_succ]
                    refine' wpAnyH_take (i := 18) (oi := ⟨some 91, _, _, _, _, _⟩) (v := undef) rfl (by kernel_rfl) (by kernel_rfl) (by kernel_rfl) (fun _ _ _ h => h) (Or.inr ⟨by rfl, rfl⟩) hS0 ?r18C
                    try simp only [Act.put, List.setIfInBounds_toArray, List.set_cons_zero, List.set_cons_succ]
                    refine' wpAnyH_take (i := 19) (oi := ⟨some 92, _, _, _, _, _⟩) (v := undef) rfl (by kernel_rfl) (by kernel_rfl) (by kernel_rfl) (fun _ _ _ h => h) (Or.inr ⟨by rfl, rfl⟩) hS0 ?r19C
                    try simp only [Act.put, List.setIfInBounds_toArray, List.set_cons_zero, List.set_cons_succ]
                    refine' wpAnyH_take (i := 20) (oi := ⟨some 93, _, _, _, _, _⟩) (v := undef) rfl (by kernel_rfl) (by kernel_rfl) (by kernel_rfl) (fun _ _ _ h => h) (Or.inr ⟨by rfl, rfl⟩) hS0 ?r20C
                    try simp only [Act.put, List.setIfInBounds_toArray, List.set_cons_zero, List.set_cons_succ]
                    refine' wpAnyH_take (i := 21) (oi := ⟨some 94, _, _, _, _, _⟩) (v := undef) rfl (by kernel_rfl) (by kernel_rfl) (by kernel_rfl) (fun _ _ _ h => h) (Or.inr ⟨by rfl, rfl⟩) hS0 ?r21C
                    try simp only [Act.put, List.setIfInBounds_toArray, List.set_cons_zero, List.set_cons_succ]
                    refine' wpAnyH_take (i := 22) (oi := ⟨some 95, _, _, _, _, _⟩) (v := _) rfl (by kernel_rfl) (by kernel_rfl) (by kernel_rfl) (fun _ _ _ h => h) (Or.inl ⟨by rfl, ?y22C⟩) hS0 ?r22C
                    case y22C => (intro w' hSw; obtain ⟨s1, s2, s3⟩ := HC6.out w' hSw; go_simp; try rfl)
                    try simp only [Act.put, List.setIfInBounds_toArray, List.set_cons_zero, List.set_cons_succ]
                    refine' wpAnyH_take (i := 23) (oi := ⟨some 96, _, _, _, _, _⟩) (v := _) rfl (by kernel_rfl) (by kernel_rfl) (by kernel_rfl) (fun _ _ _ h => h) (Or.inl ⟨by rfl, ?y23C⟩) hS0 ?r23C
                    case y23C => (intro w' hSw; obtain ⟨s1, s2, s3⟩ := HC6.out w' hSw; go_simp; try rfl)
                    try simp only [Act.put, List.setIfInBounds_toArray, List.set_cons_zero, List.set_cons_succ]
                    refine' wpAnyH_take (i := 24) (oi := ⟨some 97, _, _, _, _, _⟩) (v := _) rfl (by kernel_rfl) (by kernel_rfl) (by kernel_rfl) (fun _ _ _ h => h) (Or.inl ⟨by rfl, ?y24C⟩) hS0 ?r24C
                    case y24C => (intro w' hSw; obtain ⟨s1, s2, s3⟩ := HC6.out w' hSw; go_simp; try rfl)
                    try simp only [Act.put, List.setIfInBounds_toArray, List.set_cons_zero, List.set_cons_succ]
                    refine' wpAnyH_take (i := 25) (oi := ⟨some 98, _, _, _, _, _⟩) (v := _) rfl (by kernel_rfl) (by kernel_rfl) (by kernel_rfl) (fun _ _ _ h => h) (Or.inl ⟨by rfl, ?y25C⟩) hS0 ?r25C
                    case y25C => (intro w' hSw; obtain ⟨s1, s2, s3⟩ := HC6.out w' hSw; go_simp; try rfl)
                    try simp only [Act.put, List.setIfInBounds_toArray, List.set_cons_zero, List.set_cons_succ]
                    refine' wpAnyH_take (i := 26) (oi := ⟨some 99, _, _, _, _, _⟩) (v := _) rfl (by kernel_rfl) (by kernel_rfl) (by kernel_rfl) (fun _ _ _ h => h) (Or.inl ⟨by rfl, ?y26C⟩) hS0 ?r26C
                    case y26C => (intro w' hSw; obtain ⟨s1, s2, s3⟩ := HC6.out w' hSw; go_simp; try rfl)
                    try simp only [Act.put, List.setIfInBounds_toArray, List.set_cons_zero, List.set_cons_succ]
                    refine' wpAnyH_take (i := 27) (oi := ⟨some 100, _, _, _, _, _⟩) (v := _) rfl (by kernel_rfl) (by kernel_rfl) (by kernel_rfl) (fun _ _ _ h => h) (Or.inl ⟨by rfl, ?y27C⟩) hS0 ?r27C
                    case y27C => (intro w' hSw; obtain ⟨s1, s2, s3⟩ := HC6.out w' hSw; go_simp; try rfl)
                    try simp only [Act.put, List.setIfInBounds_toArray, List.set_cons_zero, List.set_cons_succ]
                    refine' wpAnyH_take (i := 28) (oi := ⟨some 101, _, _, _, _, _⟩) (v := _) rfl (by kernel_rfl) (by kernel_rfl) (by kernel_rfl) (fun _ _ _ h => h) (Or.inl ⟨by rfl, ?y28C⟩) hS0 ?r28C
                    case y28C => (intro w' hSw; obtain ⟨s1, s2, s3⟩ := HC6.out w' hSw; go_simp; try rfl)
                    try simp only [Act.put, List.setIfInBounds_toArray, List.set_cons_zero, List.set_cons_succ]
                    refine' wpAnyH_take (i := 29) (oi := ⟨some 102, _, _, _, _, _⟩) (v := _) rfl (by kernel_rfl) (by kernel_rfl) (by kernel_rfl) (fun _ _ _ h => h) (Or.inl ⟨by rfl, ?y29C⟩) hS0 ?r29C
                    case y29C => (intro w' hSw; obtain ⟨s1, s2, s3⟩ := HC6.out w' hSw; go_simp; try rfl)
                    try simp only [Act.put, List.setIfInBounds_toArray, List.set_cons_zero, List.set_cons_succ]
                    refine' wpAnyH_take (i := 30) (oi := ⟨some 103, _, _, _, _, _⟩) (v := _) rfl (by kernel_rfl) (by kernel_rfl) (by kernel_rfl) (fun _ _ _ h => h) (Or.inl ⟨by rfl, ?y30C⟩) hS0 ?r30C
                    case y30C => (intro w' hSw; obtain ⟨s1, s2, s3⟩ := HC6.out w' hSw; go_simp; try rfl)
                    try simp only [Act.put, List.setIfInBounds_toArray, List.set_cons_zero, List.set_cons_succ]
                    refine' wpAnyH_take (i := 31) (oi := ⟨some 104, _, _, _, _, _⟩) (v := _) rfl (by kernel_rfl) (by kernel_rfl) (by kernel_rfl) (fun _ _ _ h => h) (Or.inl ⟨by rfl, ?y31C⟩) hS0 ?r31C
                    case y31C => (intro w' hSw; obtain ⟨s1, s2, s3⟩ := HC6.out w' hSw; go_simp; try rfl)
                    try simp only [Act.put, List.setIfInBounds_toArray, List.set_cons_zero, List.set_cons_succ]
                    refine' wpAnyH_take (i := 32) (oi := ⟨some 105, _, _, _, _, _⟩) (v := _) rfl (by kernel_rfl) (by kernel_rfl) (by kernel_rfl) (fun _ _ _ h => h) (Or.inl ⟨by rfl, ?y32C⟩) hS0 ?r32C
                    case y32C => (intro w' hSw; obtain ⟨s1, s2, s3⟩ := HC6.out w' hSw; go_simp; try rfl)
                    try simp only [Act.put, List.setIfInBounds_toArray, List.set_cons_zero, List.set_cons_succ]
                    refine' wpAnyH_take (i := 33) (oi := ⟨some 106, _, _, _, _, _⟩) (v := _) rfl (by kernel_rfl) (by kernel_rfl) (by kernel_rfl) (fun _ _ _ h => h) (Or.inl ⟨by rfl, ?y33C⟩) hS0 ?r33C
                    case y33C => (intro w' hSw; obtain ⟨s1, s2, s3⟩ := HC6.out w' hSw; go_simp; try rfl)
                    try simp only [Act.put, List.setIfInBounds_toArray, List.set_cons_zero, List.set_cons_succ]
                    refine' wpAnyH_take (i := 34) (oi := ⟨some 107, _, _, _, _, _⟩) (v := _) rfl (by kernel_rfl) (by kernel_rfl) (by kernel_rfl) (fun _ _ _ h => h) (Or.inl ⟨by rfl, ?y34C⟩) hS0 ?r34C
                    case y34C => (intro w' hSw; obtain ⟨s1, s2, s3⟩ := HC6.out w' hSw; go_simp; try rfl)
                    try simp only [Act.put, List.setIfInBounds_toArray, List.set_cons_zero, List.set_cons_succ]
                    refine' wpAnyH_take (i := 35) (oi := ⟨some 108, _, _, _, _, _⟩) (v := _) rfl (by kernel_rfl) (by kernel_rfl) (by kernel_rfl) (fun _ _ _ h => h) (Or.inl ⟨by rfl, ?y35C⟩) hS0 ?r35C
                    case y35C => (intro w' hSw; obtain ⟨s1, s2, s3⟩ := HC6.out w' hSw; go_simp; try rfl)
                    try simp only [Act.put, List.setIfInBounds_toArray, List.set_cons_zero, List.set_cons_succ]
                    refine' wpAnyH_take (i := 36) (oi := ⟨some 109, _, _, _, _, _⟩) (v := _) rfl (by kernel_rfl) (by kernel_rfl) (by kernel_rfl) (fun _ _ _ h => h) (Or.inl ⟨by rfl, ?y36C⟩) hS0 ?r36C
                    case y36C => (intro w' hSw; obtain ⟨s1, s2, s3⟩ := HC6.out w' hSw; go_simp; try rfl)
                    try simp only [Act.put, List.setIfInBounds_toArray, List.set_cons_zero, List.set_cons_succ]
                    refine' wpAnyH_take (i := 37) (oi := ⟨some 110, _, _, _, _, _⟩) (v := _) rfl (by kernel_rfl) (by kernel_rfl) (by kernel_rfl) (fun _ _ _ h => h) (Or.inl ⟨by rfl, ?y37C⟩) hS0 ?r37C
                    case y37C => (intro w' hSw; obtain ⟨s1, s2, s3⟩ := HC6.out w' hSw; go_simp; try rfl)
                    try simp only [Act.put, List.setIfInBounds_toArray, List.set_cons_zero, List.set_cons_succ]
                    refine' wpAnyH_take (i := 38) (oi := ⟨some 111, _, _, _, _, _⟩) (v := _) rfl (by kernel_rfl) (by kernel_rfl) (by kernel_rfl) (fun _ _ _ h => h) (Or.inl ⟨by rfl, ?y38C⟩) hS0 ?r38C
                    case y38C => (intro w' hSw; obtain ⟨s1, s2, s3⟩ := HC6.out w' hSw; go_simp; try rfl)
                    try simp only [Act.put, List.setIfInBounds_toArray, List.set_cons_zero, List.set_cons_succ]
                    refine' wpAnyH_take (i := 39) (oi := ⟨some 112, _, _, _, _, _⟩) (v := _) rfl (by kernel_rfl) (by kernel_rfl) (by kernel_rfl) (fun _ _ _ h => h) (Or.inl ⟨by rfl, ?y39C⟩) hS0 ?r39C
                    case y39C => (intro w' hSw; obtain ⟨s1, s2, s3⟩ := HC6.out w' hSw; go_simp; try rfl)
                    try simp only [Act.put, List.setIfInBounds_toArray, List.set_cons_zero, List.set_cons_succ]
                    refine' wpAnyH_take (i := 40) (oi := ⟨some 113, _, _, _, _, _⟩) (v := _) rfl (by kernel_rfl) (by kernel_rfl) (by kernel_rfl) (fun _ _ _ h => h) (Or.inl ⟨by rfl, ?y40C⟩) hS0 ?r40C
                    case y40C => (intro w' hSw; obtain ⟨s1, s2, s3⟩ := HC6.out w' hSw; go_simp; try rfl)
                    try simp only [Act.put, List.setIfInBounds_toArray, List.set_cons_zero, List.set_cons_succ]
                    refine' wpAnyH_take (i := 41) (oi := ⟨some 114, _, _, _, _, _⟩) (v := _) rfl (by kernel_rfl) (by kernel_rfl) (by kernel_rfl) (fun _ _ _ h => h) (Or.inl ⟨by rfl, ?y41C⟩) hS0 ?r41C
                    case y41C => (intro w' hSw; obtain ⟨s1, s2, s3⟩ := HC6.out w' hSw; go_simp; try rfl)
                    try simp only [Act.put, List.setIfInBounds_toArray, List.set_cons_zero, List.set_cons_succ]
                    refine' wpAnyH_take (i := 42) (oi := ⟨some 115, _, _, _, _, _⟩) (v := _) rfl (by kernel_rfl) (by kernel_rfl) (by kernel_rfl) (fun _ _ _ h => h) (Or.inl ⟨by rfl, ?y42C⟩) hS0 ?r42C
                    case y42C => (intro w' hSw; obtain ⟨s1, s2, s3⟩ := HC6.out w' hSw; go_simp; try rfl)
                    try simp only [Act.put, List.setIfInBounds_toArray, List.set_cons_zero, List.set_cons_succ]
                    refine' wpAnyH_take (i := 43) (oi := ⟨some 116, _, _, _, _, _⟩) (v := _) rfl (by kernel_rfl) (by kernel_rfl) (by kernel_rfl) (fun _ _ _ h => h) (Or.inl ⟨by rfl, ?y43C⟩) hS0 ?r43C
                    case y43C => (intro w' hSw; obtain ⟨s1, s2, s3⟩ := HC6.out w' hSw; go_simp; try rfl)
                    try simp only [Act.put, List.setIfInBounds_toArray, List.set_cons_zero, List.set_cons_succ]
                    refine' wpAnyH_take (i := 44) (oi := ⟨some 117, _, _, _, _, _⟩) (v := _) rfl (by kernel_rfl) (by kernel_rfl) (by kernel_rfl) (fun _ _ _ h => h) (Or.inl ⟨by rfl, ?y44C⟩) hS0 ?r44C
                    case y44C => (intro w' hSw; obtain ⟨s1, s2, s3⟩ := HC6.out w' hSw; go_simp; try rfl)
                    try simp only [Act.put, List.setIfInBounds_toArray, List.set_cons_zero, List.set_cons_succ]
                    refine' wpAnyH_take (i := 45) (oi := ⟨some 118, _, _, _, _, _⟩) (v := undef) rfl (by kernel_rfl) (by kernel_rfl) (by kernel_rfl) (fun _ _ _ h => h) (Or.inr ⟨by rfl, rfl⟩) hS0 ?r45C
                    try simp only [Act.put, List.setIfInBounds_toArray, List.set_cons_zero, List.set_cons_succ]
                    refine' wpAnyH_take (i := 46) (oi := ⟨some 119, _, _, _, _, _⟩) (v := undef) rfl (by kernel_rfl) (by kernel_rfl) (by kernel_rfl) (fun _ _ _ h => h) (Or.inr ⟨by rfl, rfl⟩) hS0 ?r46C
                    try simp only [Act.put, List.setIfInBounds_toArray, List.set_cons_zero, List.set_cons_succ]
                    refine' wpAnyH_take (i := 47) (oi := ⟨some 120, _, _, _, _, _⟩) (v := undef) rfl (by kernel_rfl) (by kernel_rfl) (by kernel_rfl) (fun _ _ _ h => h) (Or.inr ⟨by rfl, rfl⟩) hS0 ?r47C
                    try simp only [Act.put, List.setIfInBounds_toArray, List.set_cons_zero, List.set_cons_succ]
                    refine' wpAnyH_take (i := 48) (oi := ⟨some 121, _, _, _, _, _⟩) (v := _) rfl (by kernel_rfl) (by kernel_rfl) (by kernel_rfl) (fun _ _ _ h => h) (Or.inl ⟨by rfl, ?y48C⟩) hS0 ?r48C
                    case y48C => (intro w' hSw; obtain ⟨s1, s2, s3⟩ := HC6.out w' hSw; go_simp; try rfl)
                    try simp only [Act.put, List.setIfInBounds_toArray, List.set_cons_zero, List.set_cons_succ]
                    refine' wpAnyH_take (i := 49) (oi := ⟨some 122, _, _, _, _, _⟩) (v := _) rfl (by kernel_rfl) (by kernel_rfl) (by kernel_rfl) (fun _ _ _ h => h) (Or.inl ⟨by rfl, ?y49C⟩) hS0 ?r49C
                    case y49C => (intro w' hSw; obtain ⟨s1, s2, s3⟩ := HC6.out w' hSw; go_simp; try rfl)
                    try simp only [Act.put, List.setIfInBounds_toArray, List.set_cons_zero, List.set_cons_succ]
                    refine wpAnyH_done (by kernel_rfl) ?_ _
                    dsimp only [OnlyNormal]
                    gi_wp2_with fail
                    gi_meet
                    exact ⟨rfl, HD6.out.trans (hS0.mono HD6.out.size)⟩
              · have h0b : (r.1 == 0) = false := by rw [beq_eq_false_iff_ne]; omega
                have h5b : (r.1 == 5) = false := by rw [beq_eq_false_iff_ne]; omega
                clear h5 h0 hk1
                as_aux_lemma =>
                  refine wpIn_only (wpIn_wide.2 ?_)
                  have HD6 := Lib.hid (show Below X6.heap.size X6 X6.drew from (Below.refl _ _).drew)
                  refine wp_region_held_drew (S := fun X => Below X6.drew.heap.size X6.drew X) hfo (Below.refl _ _) (fun hS0 => ?_)
                  have HC6 := Lib.hid (fun X (hX : Below X6.drew.heap.size X6.drew X) => HCC.out X (HD6.out.trans (hX.mono HD6.out.size)))
                  refine' wpAnyH_take (i := 0) (oi := ⟨some 73, _, _, _, _, _⟩) (v := _) rfl (by kernel_rfl) (by kernel_rfl) (by kernel_rfl) (fun _ _ _ h => h) (Or.inl ⟨by rfl, ?y0D⟩) hS0 ?r0D
                  case y0D => (intro w' hSw; obtain ⟨s1, s2, s3⟩ := HC6.out w' hSw; go_simp; try rfl)
                  try simp only [Act.put, List.setIfInBounds_toArray, List.set_cons_zero, List.set_cons_succ]
                  refine' wpAnyH_take (i := 1) (oi := ⟨some 74, _, _, _, _, _⟩) (v := _) rfl (by kernel_rfl) (by kernel_rfl) (by kernel_rfl) (fun _ _ _ h => h) (Or.inl ⟨by rfl, ?y1D⟩) hS0 ?r1D
                  case y1D => (intro w' hSw; obtain ⟨s1, s2, s3⟩ := HC6.out w' hSw; go_simp; try rfl)
                  try simp only [Act.put, List.setIfInBounds_toArray, List.set_cons_zero, List.set_cons_succ]
                  refine' wpAnyH_take (i := 2) (oi := ⟨some 75, _, _, _, _, _⟩) (v := _) rfl (by kernel_rfl) (by kernel_rfl) (by kernel_rfl) (fun _ _ _ h => h) (Or.inl ⟨by rfl, ?y2D⟩) hS0 ?r2D
                  case y2D => (intro w' hSw; obtain ⟨s1, s2, s3⟩ := HC6.out w' hSw; go_simp; try rfl)
                  try simp only [Act.put, List.setIfInBounds_toArray, List.set_cons_zero, List.set_cons_succ]
                  refine' wpAnyH_take (i := 3) (oi := ⟨some 76, _, _, _, _, _⟩) (v := _) rfl (by kernel_rfl) (by kernel_rfl) (by kernel_rfl) (fun _ _ _ h => h) (Or.inl ⟨by rfl, ?y3D⟩) hS0 ?r3D
                  case y3D => (intro w' hSw; obtain ⟨s1, s2, s3⟩ := HC6.out w' hSw; go_simp; try rfl)
                  try simp only [Act.put, List.setIfInBounds_toArray, List.set_cons_zero, List.set_cons_succ]
                  refine' wpAnyH_take (i := 4) (oi := ⟨some 77, _, _, _, _, _⟩) (v := _) rfl (by kernel_rfl) (by kernel_rfl) (by kernel_rfl) (fun _ _ _ h => h) (Or.inl ⟨by rfl, ?y4D⟩) hS0 ?r4D
                  case y4D => (intro w' hSw; obtain ⟨s1, s2, s3⟩ := HC6.out w' hSw; go_simp; try rfl)
                  try simp only [Act.put, List.setIfInBounds_toArray, List.set_cons_zero, List.set_cons_succ]
                  refine' wpAnyH_take (i := 5) (oi := ⟨some 78, _, _, _, _, _⟩) (v := _) rfl (by kernel_rfl) (by kernel_rfl) (by kernel_rfl) (fun _ _ _ h => h) (Or.inl ⟨by rfl, ?y5D⟩) hS0 ?r5D
                  case y5D => (intro w' hSw; obtain ⟨s1, s2, s3⟩ := HC6.out w' hSw; go_simp; try rfl)
                  try simp only [Act.put, List.setIfInBounds_toArray, List.set_cons_zero, List.set_cons_succ]
                  refine' wpAnyH_take (i := 6) (oi := ⟨some 79, _, _, _, _, _⟩) (v := _) rfl (by kernel_rfl) (by kernel_rfl) (by kernel_rfl) (fun _ _ _ h => h) (Or.inl ⟨by rfl, ?y6D⟩) hS0 ?r6D
                  case y6D => (intro w' hSw; obtain ⟨s1, s2, s3⟩ := HC6.out w' hSw; go_simp; try rfl)
                  try simp only [Act.put, List.setIfInBounds_toArray, List.set_cons_zero, List.set_cons_succ]
                  refine' wpAnyH_take (i := 7) (oi := ⟨some 80, _, _, _, _, _⟩) (v := _) rfl (by kernel_rfl) (by kernel_rfl) (by kernel_rfl) (fun _ _ _ h => h) (Or.inl ⟨by rfl, ?y7D⟩) hS0 ?r7D
                  case y7D => (intro w' hSw; obtain ⟨s1, s2, s3⟩ := HC6.out w' hSw; go_simp; try rfl)
                  try simp only [Act.put, List.setIfInBounds_toArray, List.set_cons_zero, List.set_cons_succ]
                  refine' wpAnyH_take (i := 8) (oi := ⟨some 81, _, _, _, _, _⟩) (v := _) rfl (by kernel_rfl) (by kernel_rfl) (by kernel_rfl) (fun _ _ _ h => h) (Or.inl ⟨by rfl, ?y8D⟩) hS0 ?r8D
                  case y8D => (intro w' hSw; obtain ⟨s1, s2, s3⟩ := HC6.out w' hSw; go_simp; try rfl)
                  try simp only [Act.put, List.setIfInBounds_toArray, List.set_cons_zero, List.set_cons_succ]
                  refine' wpAnyH_take (i := 9) (oi := ⟨some 82, _, _, _, _, _⟩) (v := _) rfl (by kernel_rfl) (by kernel_rfl) (by kernel_rfl) (fun _ _ _ h => h) (Or.inl ⟨by rfl, ?y9D⟩) hS0 ?r9D
                  case y9D => (intro w' hSw; obtain ⟨s1, s2, s3⟩ := HC6.out w' hSw; go_simp; try rfl)
                  try simp only [Act.put, List.setIfInBounds_toArray, List.set_cons_zero, List.set_cons_succ]
                  refine' wpAnyH_take (i := 10) (oi := ⟨some 83, _, _, _, _, _⟩) (v := _) rfl (by kernel_rfl) (by kernel_rfl) (by kernel_rfl) (fun _ _ _ h => h) (Or.inl ⟨by rfl, ?y10D⟩) hS0 ?r10D
                  case y10D => (intro w' hSw; obtain ⟨s1, s2, s3⟩ := HC6.out w' hSw; go_simp; try rfl)
                  try simp only [Act.put, List.setIfInBounds_toArray, List.set_cons_zero, List.set_cons_succ]
                  refine' wpAnyH_take (i := 11) (oi := ⟨some 84, _, _, _, _, _⟩) (v := undef) rfl (by kernel_rfl) (by kernel_rfl) (by kernel_rfl) (fun _ _ _ h => h) (Or.inr ⟨by rfl, rfl⟩) hS0 ?r11D
                  try simp only [Act.put, List.setIfInBounds_toArray, List.set_cons_zero, List.set_cons_succ]
                  refine' wpAnyH_take (i := 12) (oi := ⟨some 85, _, _, _, _, _⟩) (v := undef) rfl (by kernel_rfl) (by kernel_rfl) (by kernel_rfl) (fun _ _ _ h => h) (Or.inr ⟨by rfl, rfl⟩) hS0 ?r12D
                  try simp only [Act.put, List.setIfInBounds_toArray, List.set_cons_zero, List.set_cons_succ]
                  refine' wpAnyH_take (i := 13) (oi := ⟨some 86, _, _, _, _, _⟩) (v := undef) rfl (by kernel_rfl) (by kernel_rfl) (by kernel_rfl) (fun _ _ _ h => h) (Or.inr ⟨by rfl, rfl⟩) hS0 ?r13D
                  try simp only [Act.put, List.setIfInBounds_toArray, List.set_cons_zero, List.set_cons_succ]
                  refine' wpAnyH_take (i := 14) (oi := ⟨some 87, _, _, _, _, _⟩) (v := undef) rfl (by kernel_rfl) (by kernel_rfl) (by kernel_rfl) (fun _ _ _ h => h) (Or.inr ⟨by rfl, rfl⟩) hS0 ?r14D
                  try simp only [Act.put, List.setIfInBounds_toArray, List.set_cons_zero, List.set_cons_succ]
                  refine' wpAnyH_take (i := 15) (oi := ⟨some 88, _, _, _, _, _⟩) (v := undef) rfl (by kernel_rfl) (by kernel_rfl) (by kernel_rfl) (fun _ _ _ h => h) (Or.inr ⟨by rfl, rfl⟩) hS0 ?r15D
                  try simp only [Act.put, List.setIfInBounds_toArray, List.set_cons_zero, List.set_cons_succ]
                  refine' wpAnyH_take (i := 16) (oi := ⟨some 89, _, _, _, _, _⟩) (v := undef) rfl (by kernel_rfl) (by kernel_rfl) (by kernel_rfl) (fun _ _ _ h => h) (Or.inr ⟨by rfl, rfl⟩) hS0 ?r16D
                  try simp only [Act.put, List.setIfInBounds_toArray, List.set_cons_zero, List.set_cons_succ]
                  refine' wpAnyH_take (i := 17) (oi := ⟨some 90, _, _, _, _, _⟩) (v := undef) rfl (by kernel_rfl) (by kernel_rfl) (by kernel_rfl) (fun _ _ _ h => h) (Or.inr ⟨by rfl, rfl⟩) hS0 ?r17D
                  try simp only [Act.put, List.setIfInBounds_toArray, List.set_cons_zero, List.set_cons_succ]
                  refine' wpAnyH_take (i := 18) (oi := ⟨some 91, _, _, _, _, _⟩) (v := undef) rfl (by kernel_rfl) (by kernel_rfl) (by kernel_rfl) (fun _ _ _ h => h) (Or.inr ⟨by rfl, rfl⟩) hS0 ?r18D
                  try simp only [Act.put, List.setIfInBounds_toArray, List.set_cons_zero, List.set_cons_succ]
                  refine' wpAnyH_take (i := 19) (oi := ⟨some 92, _, _, _, _, _⟩) (v := undef) rfl (by kernel_rfl) (by kernel_rfl) (by kernel_rfl) (fun _ _ _ h => h) (Or.inr ⟨by rfl, rfl⟩) hS0 ?r19D
                  try simp only [Act.put, List.setIfInBounds_toArray, List.set_cons_zero, List.set_cons_succ]
                  refine' wpAnyH_take (i := 20) (oi := ⟨some 93, _, _, _, _, _⟩) (v := undef) rfl (by kernel_rfl) (by kernel_rfl) (by kernel_rfl) (fun _ _ _ h => h) (Or.inr ⟨by rfl, rfl⟩) hS0 ?r20D
                  try simp only [Act.put, List.setIfInBounds_toArray, List.set_cons_zero, List.set_cons_succ]
                  refine' wpAnyH_take (i := 21) (oi := ⟨some 94, _, _, _, _, _⟩) (v := undef) rfl (by kernel_rfl) (by kernel_rfl) (by kernel_rfl) (fun _ _ _ h => h) (Or.inr ⟨by rfl, rfl⟩) hS0 ?r21D
                  try simp only [Act.put, List.setIfInBounds_toArray, List.set_cons_zero, List.set_cons_succ]
                  refine' wpAnyH_take (i := 22) (oi := ⟨some 95, _, _, _, _, _⟩) (v := _) rfl (by kernel_rfl) (by kernel_rfl) (by kernel_rfl) (fun _ _ _ h => h) (Or.inl ⟨by rfl, ?y22D⟩) hS0 ?r22D
                  case y22D => (intro w' hSw; obtain ⟨s1, s2, s3⟩ := HC6.out w' hSw; go_simp; try rfl)
                  try simp only [Act.put, List.setIfInBounds_toArray, List.set_cons_zero, List.set_cons_succ]
                  refine' wpAnyH_take (i := 23) (oi := ⟨some 96, _, _, _, _, _⟩) (v := _) rfl (by kernel_rfl) (by kernel_rfl) (by kernel_rfl) (fun _ _ _ h => h) (Or.inl ⟨by rfl, ?y23D⟩) hS0 ?r23D
                  case y23D => (intro w' hSw; obtain ⟨s1, s2, s3⟩ := HC6.out w' hSw; go_simp; try rfl)
                  try simp only [Act.put, List.setIfInBounds_toArray, List.set_cons_zero, List.set_cons_succ]
                  refine' wpAnyH_take (i := 24) (oi := ⟨some 97, _, _, _, _, _⟩) (v := _) rfl (by kernel_rfl) (by kernel_rfl) (by kernel_rfl) (fun _ _ _ h => h) (Or.inl ⟨by rfl, ?y24D⟩) hS0 ?r24D
                  case y24D => (intro w' hSw; obtain ⟨s1, s2, s3⟩ := HC6.out w' hSw; go_simp; try rfl)
                  try simp only [Act.put, List.setIfInBounds_toArray, List.set_cons_zero, List.set_cons_succ]
                  refine' wpAnyH_take (i := 25) (oi := ⟨some 98, _, _, _, _, _⟩) (v := _) rfl (by kernel_rfl) (by kernel_rfl) (by kernel_rfl) (fun _ _ _ h => h) (Or.inl ⟨by rfl, ?y25D⟩) hS0 ?r25D
                  case y25D => (intro w' hSw; obtain ⟨s1, s2, s3⟩ := HC6.out w' hSw; go_simp; try rfl)
                  try simp only [Act.put, List.setIfInBounds_toArray, List.set_cons_zero, List.set_cons_succ]
                  refine' wpAnyH_take (i := 26) (oi := ⟨some 99, _, _, _, _, _⟩) (v := _) rfl (by kernel_rfl) (by kernel_rfl) (by kernel_rfl) (fun _ _ _ h => h) (Or.inl ⟨by rfl, ?y26D⟩) hS0 ?r26D
                  case y26D => (intro w' hSw; obtain ⟨s1, s2, s3⟩ := HC6.out w' hSw; go_simp; try rfl)
                  try simp only [Act.put, List.setIfInBounds_toArray, List.set_cons_zero, List.set_cons_succ]
                  refine' wpAnyH_take (i := 27) (oi := ⟨some 100, _, _, _, _, _⟩) (v := _) rfl (by kernel_rfl) (by kernel_rfl) (by kernel_rfl) (fun _ _ _ h => h) (Or.inl ⟨by rfl, ?y27D⟩) hS0 ?r27D
                  case y27D => (intro w' hSw; obtain ⟨s1, s2, s3⟩ := HC6.out w' hSw; go_simp; try rfl)
                  try simp only [Act.put, List.setIfInBounds_toArray, List.set_cons_zero, List.set_cons_succ]
                  refine' wpAnyH_take (i := 28) (oi := ⟨some 101, _, _, _, _, _⟩) (v := _) rfl (by kernel_rfl) (by kernel_rfl) (by kernel_rfl) (fun _ _ _ h => h) (Or.inl ⟨by rfl, ?y28D⟩) hS0 ?r28D
                  case y28D => (intro w' hSw; obtain ⟨s1, s2, s3⟩ := HC6.out w' hSw; go_simp; try rfl)
                  try simp only [Act.put, List.setIfInBounds_toArray, List.set_cons_zero, List.set_cons_succ]
                  refine' wpAnyH_take (i := 29) (oi := ⟨some 102, _, _, _, _, _⟩) (v := _) rfl (by kernel_rfl) (by kernel_rfl) (by kernel_rfl) (fun _ _ _ h => h) (Or.inl ⟨by rfl, ?y29D⟩) hS0 ?r29D
                  case y29D => (intro w' hSw; obtain ⟨s1, s2, s3⟩ := HC6.out w' hSw; go_simp; try rfl)
                  try simp only [Act.put, List.setIfInBounds_toArray, List.set_cons_zero, List.set_cons_succ]
                  refine' wpAnyH_take (i := 30) (oi := ⟨some 103, _, _, _, _, _⟩) (v := _) rfl (by kernel_rfl) (by kernel_rfl) (by kernel_rfl) (fun _ _ _ h => h) (Or.inl ⟨by rfl, ?y30D⟩) hS0 ?r30D
                  case y30D => (intro w' hSw; obtain ⟨s1, s2, s3⟩ := HC6.out w' hSw; go_simp; try rfl)
                  try simp only [Act.put, List.setIfInBounds_toArray, List.set_cons_zero, List.set_cons_succ]
                  refine' wpAnyH_take (i := 31) (oi := ⟨some 104, _, _, _, _, _⟩) (v := _) rfl (by kernel_rfl) (by kernel_rfl) (by kernel_rfl) (fun _ _ _ h => h) (Or.inl ⟨by rfl, ?y31D⟩) hS0 ?r31D
                  case y31D => (intro w' hSw; obtain ⟨s1, s2, s3⟩ := HC6.out w' hSw; go_simp; try rfl)
                  try simp only [Act.put, List.setIfInBounds_toArray, List.set_cons_zero, List.set_cons_succ]
                  refine' wpAnyH_take (i := 32) (oi := ⟨some 105, _, _, _, _, _⟩) (v := _) rfl (by kernel_rfl) (by kernel_rfl) (by kernel_rfl) (fun _ _ _ h => h) (Or.inl ⟨by rfl, ?y32D⟩) hS0 ?r32D
                  case y32D => (intro w' hSw; obtain ⟨s1, s2, s3⟩ := HC6.out w' hSw; go_simp; try rfl)
                  try simp only [Act.put, List.setIfInBounds_toArray, List.set_cons_zero, List.set_cons_succ]
                  refine' wpAnyH_take (i := 33) (oi := ⟨some 106, _, _, _, _, _⟩) (v := _) rfl (by kernel_rfl) (by kernel_rfl) (by kernel_rfl) (fun _ _ _ h => h) (Or.inl ⟨by rfl, ?y33D⟩) hS0 ?r33D
                  case y33D => (intro w' hSw; obtain ⟨s1, s2, s3⟩ := HC6.out w' hSw; go_simp; try rfl)
                  try simp only [Act.put, List.setIfInBounds_toArray, List.set_cons_zero, List.set_cons_succ]
                  refine' wpAnyH_take (i := 34) (oi := ⟨some 107, _, _, _, _, _⟩) (v := _) rfl (by kernel_rfl) (by kernel_rfl) (by kernel_rfl) (fun _ _ _ h => h) (Or.inl ⟨by rfl, ?y34D⟩) hS0 ?r34D
                  case y34D => (intro w' hSw; obtain ⟨s1, s2, s3⟩ := HC6.out w' hSw; go_simp; try rfl)
                  try simp only [Act.put, List.setIfInBounds_toArray, List.set_cons_zero, List.set_cons_succ]
                  refine' wpAnyH_take (i := 35) (oi := ⟨some 108, _, _, _, _, _⟩) (v := undef) rfl (by kernel_rfl) (by kernel_rfl) (by kernel_rfl) (fun _ _ _ h => h) (Or.inr ⟨by rfl, rfl⟩) hS0 ?r35D
                  try simp only [Act.put, List.setIfInBounds_toArray, List.set_cons_zero, List.set_cons_succ]
                  refine' wpAnyH_take (i := 36) (oi := ⟨some 109, _, _, _, _, _⟩) (v := undef) rfl (by kernel_rfl) (by kernel_rfl) (by kernel_rfl) (fun _ _ _ h => h) (Or.inr ⟨by rfl, rfl⟩) hS0 ?r36D
                  try simp only [Act.put, List.setIfInBounds_toArray, List.set_cons_zero, List.set_cons_succ]
                  refine' wpAnyH_take (i := 37) (oi := ⟨some 110, _, _, _, _, _⟩) (v := undef) rfl (by kernel_rfl) (by kernel_rfl) (by kernel_rfl) (fun _ _ _ h => h) (Or.inr ⟨by rfl, rfl⟩) hS0 ?r37D
                  try simp only [Act.put, List.setIfInBounds_toArray, List.set_cons_zero, List.set_cons_succ]
                  refine' wpAnyH_take (i := 38) (oi := ⟨some 111, _, _, _, _, _⟩) (v := undef) rfl (by kernel_rfl) (by kernel_rfl) (by kernel_rfl) (fun _ _ _ h => h) (Or.inr ⟨by rfl, rfl⟩) hS0 ?r38D
                  try simp only [Act.put, List.setIfInBounds_toArray, List.set_cons_zero, List.set_cons_succ]
                  refine' wpAnyH_take (i := 39) (oi := ⟨some 112, _, _, _, _, _⟩) (v := undef) rfl (by kernel_rfl) (by kernel_rfl) (by kernel_rfl) (fun _ _ _ h => h) (Or.inr ⟨by rfl, rfl⟩) hS0 ?r39D
                  try simp only [Act.put, List.setIfInBounds_toArray, List.set_cons_zero, List.set_cons_succ]
                  refine' wpAnyH_take (i := 40) (oi := ⟨some 113, _, _, _, _, _⟩) (v := undef) rfl (by kernel_rfl) (by kernel_rfl) (by kernel_rfl) (fun _ _ _ h => h) (Or.inr ⟨by rfl, rfl⟩) hS0 ?r40D
                  try simp only [Act.put, List.setIfInBounds_toArray, List.set_cons_zero, List.set_cons_succ]
                  refine' wpAnyH_take (i := 41) (oi := ⟨some 114, _, _, _, _, _⟩) (v := undef) rfl (by kernel_rfl) (by kernel_rfl) (by kernel_rfl) (fun _ _ _ h => h) (Or.inr ⟨by rfl, rfl⟩) hS0 ?r41D
                  try simp only [Act.put, List.setIfInBounds_toArray, List.set_cons_zero, List.set_cons_succ]
                  refine' wpAnyH_take (i := 42) (oi := ⟨some 115, _, _, _, _, _⟩) (v := undef) rfl (by kernel_rfl) (by kernel_rfl) (by kernel_rfl) (fun _ _ _ h => h) (Or.inr ⟨by rfl, rfl⟩) hS0 ?r42D
                  try simp only [Act.put, List.setIfInBounds_toArray, List.set_cons_zero, List.set_cons_succ]
                  refine' wpAnyH_take (i := 43) (oi := ⟨some 116, _, _, _, _, _⟩) (v := _) rfl (by kernel_rfl) (by kernel_rfl) (by kernel_rfl) (fun _ _ _ h => h) (Or.inl ⟨by rfl, ?y43D⟩) hS0 ?r43D
                  case y43D => (intro w' hSw; obtain ⟨s1, s2, s3⟩ := HC6.out w' hSw; go_simp; try rfl)
                  try simp only [Act.put, List.setIfInBounds_toArray, List.set_cons_zero, List.set_cons_succ]
                  refine' wpAnyH_take (i := 44) (oi := ⟨some 117, _, _, _, _, _⟩) (v := _) rfl (by kernel_rfl) (by kernel_rfl) (by kernel_rfl) (fun _ _ _ h => h) (Or.inl ⟨by rfl, ?y44D⟩) hS0 ?r44D
                  case y44D => (intro w' hSw; obtain ⟨s1, s2, s3⟩ := HC6.out w' hSw; go_simp; try rfl)
                  try simp only [Act.put, List.setIfInBounds_toArray, List.set_cons_zero, List.set_cons_succ]
                  refine' wpAnyH_take (i := 45) (oi := ⟨some 118, _, _, _, _, _⟩) (v := undef) rfl (by kernel_rfl) (by kernel_rfl) (by kernel_rfl) (fun _ _ _ h => h) (Or.inr ⟨by rfl, rfl⟩) hS0 ?r45D
                  try simp only [Act.put, List.setIfInBounds_toArray, List.set_cons_zero, List.set_cons_succ]
                  refine' wpAnyH_take (i := 46) (oi := ⟨some 119, _, _, _, _, _⟩) (v := undef) rfl (by kernel_rfl) (by kernel_rfl) (by kernel_rfl) (fun _ _ _ h => h) (Or.inr ⟨by rfl, rfl⟩) hS0 ?r46D
                  try simp only [Act.put, List.setIfInBounds_toArray, List.set_cons_zero, List.set_cons_succ]
                  refine' wpAnyH_take (i := 47) (oi := ⟨some 120, _, _, _, _, _⟩) (v := undef) rfl (by kernel_rfl) (by kernel_rfl) (by kernel_rfl) (fun _ _ _ h => h) (Or.inr ⟨by rfl, rfl⟩) hS0 ?r47D
                  try simp only [Act.put, List.setIfInBounds_toArray, List.set_cons_zero, List.set_cons_succ]
                  refine' wpAnyH_take (i := 48) (oi := ⟨some 121, _, _, _, _, _⟩) (v := _) rfl (by kernel_rfl) (by kernel_rfl) (by kernel_rfl) (fun _ _ _ h => h) (Or.inl ⟨by rfl, ?y48D⟩) hS0 ?r48D
                  case y48D => (intro w' hSw; obtain ⟨s1, s2, s3⟩ := HC6.out w' hSw; go_simp; try rfl)
                  try simp only [Act.put, List.setIfInBounds_toArray, List.set_cons_zero, List.set_cons_succ]
                  refine' wpAnyH_take (i := 49) (oi := ⟨some 122, _, _, _, _, _⟩) (v := _) rfl (by kernel_rfl) (by kernel_rfl) (by kernel_rfl) (fun _ _ _ h => h) (Or.inl ⟨by rfl, ?y49D⟩) hS0 ?r49D
                  case y49D => (intro w' hSw; obtain ⟨s1, s2, s3⟩ := HC6.out w' hSw; go_simp; try rfl)
                  try simp only [Act.put, List.setIfInBounds_toArray, List.set_cons_zero, List.set_cons_succ]
                  refine wpAnyH_done (by kernel_rfl) ?_ _
                  dsimp only [OnlyNormal]
                  gi_wp2_with fail
                  gi_meet
                  exact ⟨rfl, HD6.out.trans (hS0.mono HD6.out.size)⟩
          · have hkb : (s.kind == 1) = false := by rw [beq_eq_false_iff_ne]; exact hk1
            clear hk1
            as_aux_lemma =>
              refine wpIn_only (wpIn_wide.2 ?_)
              have HD6 := Lib.hid (show Below X6.heap.size X6 X6.drew from (Below.refl _ _).drew)
              refine wp_region_held_drew (S := fun X => Below X6.drew.heap.size X6.drew X) hfo (Below.refl _ _) (fun hS0 => ?_)
              have HC6 := Lib.hid (fun X (hX : Below X6.drew.heap.size X6.drew X) => HCC.out X (HD6.out.trans (hX.mono HD6.out.size)))
              refine' wpAnyH_take (i := 0) (oi := ⟨some 73, _, _, _, _, _⟩) (v := _) rfl (by kernel_rfl) (by kernel_rfl) (by kernel_rfl) (fun _ _ _ h => h) (Or.inl ⟨by rfl, ?y0E⟩) hS0 ?r0E
              case y0E => (intro w' hSw; obtain ⟨s1, s2, s3⟩ := HC6.out w' hSw; go_simp; try rfl)
              try simp only [Act.put, List.setIfInBounds_toArray, List.set_cons_zero, List.set_cons_succ]
              refine' wpAnyH_take (i := 1) (oi := ⟨some 74, _, _, _, _, _⟩) (v := _) rfl (by kernel_rfl) (by kernel_rfl) (by kernel_rfl) (fun _ _ _ h => h) (Or.inl ⟨by rfl, ?y1E⟩) hS0 ?r1E
              case y1E => (intro w' hSw; obtain ⟨s1, s2, s3⟩ := HC6.out w' hSw; go_simp; try rfl)
              try simp only [Act.put, List.setIfInBounds_toArray, List.set_cons_zero, List.set_cons_succ]
              refine' wpAnyH_take (i := 2) (oi := ⟨some 75, _, _, _, _, _⟩) (v := _) rfl (by kernel_rfl) (by kernel_rfl) (by kernel_rfl) (fun _ _ _ h => h) (Or.inl ⟨by rfl, ?y2E⟩) hS0 ?r2E
              case y2E => (intro w' hSw; obtain ⟨s1, s2, s3⟩ := HC6.out w' hSw; go_simp; try rfl)
              try simp only [Act.put, List.setIfInBounds_toArray, List.set_cons_zero, List.set_cons_succ]
              refine' wpAnyH_take (i := 3) (oi := ⟨some 76, _, _, _, _, _⟩) (v := _) rfl (by kernel_rfl) (by kernel_rfl) (by kernel_rfl) (fun _ _ _ h => h) (Or.inl ⟨by rfl, ?y3E⟩) hS0 ?r3E
              case y3E => (intro w' hSw; obtain ⟨s1, s2, s3⟩ := HC6.out w' hSw; go_simp; try rfl)
              try simp only [Act.put, List.setIfInBounds_toArray, List.set_cons_zero, List.set_cons_succ]
              refine' wpAnyH_take (i := 4) (oi := ⟨some 77, _, _, _, _, _⟩) (v := _) rfl (by kernel_rfl) (by kernel_rfl) (by kernel_rfl) (fun _ _ _ h => h) (Or.inl ⟨by rfl, ?y4E⟩) hS0 ?r4E
              case y4E => (intro w' hSw; obtain ⟨s1, s2, s3⟩ := HC6.out w' hSw; go_simp; try rfl)
              try simp only [Act.put, List.setIfInBounds_toArray, List.set_cons_zero, List.set_cons_succ]
              refine' wpAnyH_take (i := 5) (oi := ⟨some 78, _, _, _, _, _⟩) (v := _) rfl (by kernel_rfl) (by kernel_rfl) (by kernel_rfl) (fun _ _ _ h => h) (Or.inl ⟨by rfl, ?y5E⟩) hS0 ?r5E
              case y5E => (intro w' hSw; obtain ⟨s1, s2, s3⟩ := HC6.out w' hSw; go_simp; try rfl)
              try simp only [Act.put, List.setIfInBounds_toArray, List.set_cons_zero, List.set_cons_succ]
              refine' wpAnyH_take (i := 6) (oi := ⟨some 79, _, _, _, _, _⟩) (v := _) rfl (by kernel_rfl) (by kernel_rfl) (by kernel_rfl) (fun _ _ _ h => h) (Or.inl ⟨by rfl, ?y6E⟩) hS0 ?r6E
              case y6E => (intro w' hSw; obtain ⟨s1, s2, s3⟩ := HC6.out w' hSw; go_simp; try rfl)
              try simp only [Act.put, List.setIfInBounds_toArray, List.set_cons_zero, List.set_cons_succ]
              refine' wpAnyH_take (i := 7) (oi := ⟨some 80, _, _, _, _, _⟩) (v := undef) rfl (by kernel_rfl) (by kernel_rfl) (by kernel_rfl) (fun _ _ _ h => h) (Or.inr ⟨by rfl, rfl⟩) hS0 ?r7E
              try simp only [Act.put, List.setIfInBounds_toArray, List.set_cons_zero, List.set_cons_succ]
              refine' wpAnyH_take (i := 8) (oi := ⟨some 81, _, _, _, _, _⟩) (v := undef) rfl (by kernel_rfl) (by kernel_rfl) (by kernel_rfl) (fun _ _ _ h => h) (Or.inr ⟨by rfl, rfl⟩) hS0 ?r8E
              try simp only [Act.put, List.setIfInBounds_toArray, List.set_cons_zero, List.set_cons_succ]
              refine' wpAnyH_take (i := 9) (oi := ⟨some 82, _, _, _, _, _⟩) (v := _) rfl (by kernel_rfl) (by kernel_rfl) (by kernel_rfl) (fun _ _ _ h => h) (Or.inl ⟨by rfl, ?y9E⟩) hS0 ?r9E
              case y9E => (intro w' hSw; obtain ⟨s1, s2, s3⟩ := HC6.out w' hSw; go_simp; try rfl)
              try simp only [Act.put, List.setIfInBounds_toArray, List.set_cons_zero, List.set_cons_succ]
              refine' wpAnyH_take (i := 10) (oi := ⟨some 83, _, _, _, _, _⟩) (v := _) rfl (by kernel_rfl) (by kernel_rfl) (by kernel_rfl) (fun _ _ _ h => h) (Or.inl ⟨by rfl, ?y10E⟩) hS0 ?r10E
              case y10E => (intro w' hSw; obtain ⟨s1, s2, s3⟩ := HC6.out w' hSw; go_simp; try rfl)
              try simp only [Act.put, List.setIfInBounds_toArray, List.set_cons_zero, List.set_cons_succ]
              refine' wpAnyH_take (i := 11) (oi := ⟨some 84, _, _, _, _, _⟩) (v := undef) rfl (by kernel_rfl) (by kernel_rfl) (by kernel_rfl) (fun _ _ _ h => h) (Or.inr ⟨by rfl, rfl⟩) hS0 ?r11E
              try simp only [Act.put, List.setIfInBounds_toArray, List.set_cons_zero, List.set_cons_succ]
              refine' wpAnyH_take (i := 12) (oi := ⟨some 85, _, _, _, _, _⟩) (v := undef) rfl (by kernel_rfl) (by kernel_rfl) (by kernel_rfl) (fun _ _ _ h => h) (Or.inr ⟨by rfl, rfl⟩) hS0 ?r12E
              try simp only [Act.put, List.setIfInBounds_toArray, List.set_cons_zero, List.set_cons_succ]
              refine' wpAnyH_take (i := 13) (oi := ⟨some 86, _, _, _, _, _⟩) (v := undef) rfl (by kernel_rfl) (by kernel_rfl) (by kernel_rfl) (fun _ _ _ h => h) (Or.inr ⟨by rfl, rfl⟩) hS0 ?r13E
              try simp only [Act.put, List.setIfInBounds_toArray, List.set_cons_zero, List.set_cons_succ]
              refine' wpAnyH_take (i := 14) (oi := ⟨some 87, _, _, _, _, _⟩) (v := undef) rfl (by kernel_rfl) (by kernel_rfl) (by kernel_rfl) (fun _ _ _ h => h) (Or.inr ⟨by rfl, rfl⟩) hS0 ?r14E
              try simp only [Act.put, List.setIfInBounds_toArray, List.set_cons_zero, List.set_cons_succ]
              refine' wpAnyH_take (i := 15) (oi := ⟨some 88, _, _, _, _, _⟩) (v := undef) rfl (by kernel_rfl) (by kernel_rfl) (by kernel_rfl) (fun _ _ _ h => h) (Or.inr ⟨by rfl, rfl⟩) hS0 ?r15E
              try simp only [Act.put, List.setIfInBounds_toArray, List.set_cons_zero, List.set_cons_succ]
              refine' wpAnyH_take (i := 16) (oi := ⟨some 89, _, _, _, _, _⟩) (v := undef) rfl (by kernel_rfl) (by kernel_rfl) (by kernel_rfl) (fun _ _ _ h => h) (Or.inr ⟨by rfl, rfl⟩) hS0 ?r16E
              try simp only [Act.put, List.setIfInBounds_toArray, List.set_cons_zero, List.set_cons_succ]
              refine' wpAnyH_take (i := 17) (oi := ⟨some 90, _, _, _, _, _⟩) (v := undef) rfl (by kernel_rfl) (by kernel_rfl) (by kernel_rfl) (fun _ _ _ h => h) (Or.inr ⟨by rfl, rfl⟩) hS0 ?r17E
              try simp only [Act.put, List.setIfInBounds_toArray, List.set_cons_zero, List.set_cons_succ]
              refine' wpAnyH_take (i := 18) (oi := ⟨some 91, _, _, _, _, _⟩) (v := undef) rfl (by kernel_rfl) (by kernel_rfl) (by kernel_rfl) (fun _ _ _ h => h) (Or.inr ⟨by rfl, rfl⟩) hS0 ?r18E
              try simp only [Act.put, List.setIfInBounds_toArray, List.set_cons_zero, List.set_cons_succ]
              refine' wpAnyH_take (i := 19) (oi := ⟨some 92, _, _, _, _, _⟩) (v := undef) rfl (by kernel_rfl) (by kernel_rfl) (by kernel_rfl) (fun _ _ _ h => h) (Or.inr ⟨by rfl, rfl⟩) hS0 ?r19E
              try simp only [Act.put, List.setIfInBounds_toArray, List.set_cons_zero, List.set_cons_succ]
              refine' wpAnyH_take (i := 20) (oi := ⟨some 93, _, _, _, _, _⟩) (v := undef) rfl (by kernel_rfl) (by kernel_rfl) (by kernel_rfl) (fun _ _ _ h => h) (Or.inr ⟨by rfl, rfl⟩) hS0 ?r20E
              try simp only [Act.put, List.setIfInBounds_toArray, List.set_cons_zero, List.set_cons_succ]
              refine' wpAnyH_take (i := 21) (oi := ⟨some 94, _, _, _, _, _⟩) (v := undef) rfl (by kernel_rfl) (by kernel_rfl) (by kernel_rfl) (fun _ _ _ h => h) (Or.inr ⟨by rfl, rfl⟩) hS0 ?r21E
              try simp only [Act.put, List.setIfInBounds_toArray, List.set_cons_zero, List.set_cons_succ]
              refine' wpAnyH_take (i := 22) (oi := ⟨some 95, _, _, _, _, _⟩) (v := _) rfl (by kernel_rfl) (by kernel_rfl) (by kernel_rfl) (fun _ _ _ h => h) (Or.inl ⟨by rfl, ?y22E⟩) hS0 ?r22E
              case y22E => (intro w' hSw; obtain ⟨s1, s2, s3⟩ := HC6.out w' hSw; go_simp; try rfl)
              try simp only [Act.put, List.setIfInBounds_toArray, List.set_cons_zero, List.set_cons_succ]
              refine' wpAnyH_take (i := 23) (oi := ⟨some 96, _, _, _, _, _⟩) (v := _) rfl (by kernel_rfl) (by kernel_rfl) (by kernel_rfl) (fun _ _ _ h => h) (Or.inl ⟨by rfl, ?y23E⟩) hS0 ?r23E
              case y23E => (intro w' hSw; obtain ⟨s1, s2, s3⟩ := HC6.out w' hSw; go_simp; try rfl)
              try simp only [Act.put, List.setIfInBounds_toArray, List.set_cons_zero, List.set_cons_succ]
              refine' wpAnyH_take (i := 24) (oi := ⟨some 97, _, _, _, _, _⟩) (v := _) rfl (by kernel_rfl) (by kernel_rfl) (by kernel_rfl) (fun _ _ _ h => h) (Or.inl ⟨by rfl, ?y24E⟩) hS0 ?r24E
              case y24E => (intro w' hSw; obtain ⟨s1, s2, s3⟩ := HC6.out w' hSw; go_simp; try rfl)
              try simp only [Act.put, List.setIfInBounds_toArray, List.set_cons_zero, List.set_cons_succ]
              refine' wpAnyH_take (i := 25) (oi := ⟨some 98, _, _, _, _, _⟩) (v := _) rfl (by kernel_rfl) (by kernel_rfl) (by kernel_rfl) (fun _ _ _ h => h) (Or.inl ⟨by rfl, ?y25E⟩) hS0 ?r25E
              case y25E => (intro w' hSw; obtain ⟨s1, s2, s3⟩ := HC6.out w' hSw; go_simp; try rfl)
              try simp only [Act.put, List.setIfInBounds_toArray, List.set_cons_zero, List.set_cons_succ]
              refine' wpAnyH_take (i := 26) (oi := ⟨some 99, _, _, _, _, _⟩) (v := _) rfl (by kernel_rfl) (by kernel_rfl) (by kernel_rfl) (fun _ _ _ h => h) (Or.inl ⟨by rfl, ?y26E⟩) hS0 ?r26E
              case y26E => (intro w' hSw; obtain ⟨s1, s2, s3⟩ := HC6.out w' hSw; go_simp; try rfl)
              try simp only [Act.put, List.setIfInBounds_toArray, List.set_cons_zero, List.set_cons_succ]
              refine' wpAnyH_take (i := 27) (oi := ⟨some 100, _, _, _, _, _⟩) (v := _) rfl (by kernel_rfl) (by kernel_rfl) (by kernel_rfl) (fun _ _ _ h => h) (Or.inl ⟨by rfl, ?y27E⟩) hS0 ?r27E
              case y27E => (intro w' hSw; obtain ⟨s1, s2, s3⟩ := HC6.out w' hSw; go_simp; try rfl)
              try simp only [Act.put, List.setIfInBounds_toArray, List.set_cons_zero, List.set_cons_succ]
              refine' wpAnyH_take (i := 28) (oi := ⟨some 101, _, _, _, _, _⟩) (v := _) rfl (by kernel_rfl) (by kernel_rfl) (by kernel_rfl) (fun _ _ _ h => h) (Or.inl ⟨by rfl, ?y28E⟩) hS0 ?r28E
              case y28E => (intro w' hSw; obtain ⟨s1, s2, s3⟩ := HC6.out w' hSw; go_simp; try rfl)
              try simp only [Act.put, List.setIfInBounds_toArray, List.set_cons_zero, List.set_cons_succ]
              refine' wpAnyH_take (i := 29) (oi := ⟨some 102, _, _, _, _, _⟩) (v := _) rfl (by kernel_rfl) (by kernel_rfl) (by kernel_rfl) (fun _ _ _ h => h) (Or.inl ⟨by rfl, ?y29E⟩) hS0 ?r29E
              case y29E => (intro w' hSw; obtain ⟨s1, s2, s3⟩ := HC6.out w' hSw; go_simp; try rfl)
              try simp only [Act.put, List.setIfInBounds_toArray, List.set_cons_zero, List.set_cons_succ]
              refine' wpAnyH_take (i := 30) (oi := ⟨some 103, _, _, _, _, _⟩) (v := _) rfl (by kernel_rfl) (by kernel_rfl) (by kernel_rfl) (fun _ _ _ h => h) (Or.inl ⟨by rfl, ?y30E⟩) hS0 ?r30E
              case y30E => (intro w' hSw; obtain ⟨s1, s2, s3⟩ := HC6.out w' hSw; go_simp; try rfl)
              try simp only [Act.put, List.setIfInBounds_toArray, List.set_cons_zero, List.set_cons_succ]
              refine' wpAnyH_take (i := 31) (oi := ⟨some 104, _, _, _, _, _⟩) (v := undef) rfl (by kernel_rfl) (by kernel_rfl) (by kernel_rfl) (fun _ _ _ h => h) (Or.inr ⟨by rfl, rfl⟩) hS0 ?r31E
              try simp only [Act.put, List.setIfInBounds_toArray, List.set_cons_zero, List.set_cons_succ]
              refine' wpAnyH_take (i := 32) (oi := ⟨some 105, _, _, _, _, _⟩) (v := undef) rfl (by kernel_rfl) (by kernel_rfl) (by kernel_rfl) (fun _ _ _ h => h) (Or.inr ⟨by rfl, rfl⟩) hS0 ?r32E
              try simp only [Act.put, List.setIfInBounds_toArray, List.set_cons_zero, List.set_cons_succ]
              refine' wpAnyH_take (i := 33) (oi := ⟨some 106, _, _, _, _, _⟩) (v := _) rfl (by kernel_rfl) (by kernel_rfl) (by kernel_rfl) (fun _ _ _ h => h) (Or.inl ⟨by rfl, ?y33E⟩) hS0 ?r33E
              case y33E => (intro w' hSw; obtain ⟨s1, s2, s3⟩ := HC6.out w' hSw; go_simp; try rfl)
              try simp only [Act.put, List.setIfInBounds_toArray, List.set_cons_zero, List.set_cons_succ]
              refine' wpAnyH_take (i := 34) (oi := ⟨some 107, _, _, _, _, _⟩) (v := _) rfl (by kernel_rfl) (by kernel_rfl) (by kernel_rfl) (fun _ _ _ h => h) (Or.inl ⟨by rfl, ?y34E⟩) hS0 ?r34E
              case y34E => (intro w' hSw; obtain ⟨s1, s2, s3⟩ := HC6.out w' hSw; go_simp; try rfl)
              try simp only [Act.put, List.setIfInBounds_toArray, List.set_cons_zero, List.set_cons_succ]
              refine' wpAnyH_take (i := 35) (oi := ⟨some 108, _, _, _, _, _⟩) (v := undef) rfl (by kernel_rfl) (by kernel_rfl) (by kernel_rfl) (fun _ _ _ h => h) (Or.inr ⟨by rfl, rfl⟩) hS0 ?r35E
              try simp only [Act.put, List.setIfInBounds_toArray, List.set_cons_zero, List.set_cons_succ]
              refine' wpAnyH_take (i := 36) (oi := ⟨some 109, _, _, _, _, _⟩) (v := undef) rfl (by kernel_rfl) (by kernel_rfl) (by kernel_rfl) (fun _ _ _ h => h) (Or.inr ⟨by rfl, rfl⟩) hS0 ?r36E
              try simp only [Act.put, List.setIfInBounds_toArray, List.set_cons_zero, List.set_cons_succ]
              refine' wpAnyH_take (i := 37) (oi := ⟨some 110, _, _, _, _, _⟩) (v := undef) rfl (by kernel_rfl) (by kernel_rfl) (by kernel_rfl) (fun _ _ _ h => h) (Or.inr ⟨by rfl, rfl⟩) hS0 ?r37E
              try simp only [Act.put, List.setIfInBounds_toArray, List.set_cons_zero, List.set_cons_succ]
              refine' wpAnyH_take (i := 38) (oi := ⟨some 111, _, _, _, _, _⟩) (v := undef) rfl (by kernel_rfl) (by kernel_rfl) (by kernel_rfl) (fun _ _ _ h => h) (Or.inr ⟨by rfl, rfl⟩) hS0 ?r38E
              try simp only [Act.put, List.setIfInBounds_toArray, List.set_cons_zero, List.set_cons_succ]
              refine' wpAnyH_take (i := 39) (oi := ⟨some 112, _, _, _, _, _⟩) (v := undef) rfl (by kernel_rfl) (by kernel_rfl) (by kernel_rfl) (fun _ _ _ h => h) (Or.inr ⟨by rfl, rfl⟩) hS0 ?r39E
              try simp only [Act.put, List.setIfInBounds_toArray, List.set_cons_zero, List.set_cons_succ]
              refine' wpAnyH_take (i := 40) (oi := ⟨some 113, _, _, _, _, _⟩) (v := undef) rfl (by kernel_rfl) (by kernel_rfl) (by kernel_rfl) (fun _ _ _ h => h) (Or.inr ⟨by rfl, rfl⟩) hS0 ?r40E
              try simp only [Act.put, List.setIfInBounds_toArray, List.set_cons_zero, List.set_cons_succ]
              refine' wpAnyH_take (i := 41) (oi := ⟨some 114, _, _, _, _, _⟩) (v := undef) rfl (by kernel_rfl) (by kernel_rfl) (by kernel_rfl) (fun _ _ _ h => h) (Or.inr ⟨by rfl, rfl⟩) hS0 ?r41E
              try simp only [Act.put, List.setIfInBounds_toArray, List.set_cons_zero, List.set_cons_succ]
              refine' wpAnyH_take (i := 42) (oi := ⟨some 115, _, _, _, _, _⟩) (v := undef) rfl (by kernel_rfl) (by kernel_rfl) (by kernel_rfl) (fun _ _ _ h => h) (Or.inr ⟨by rfl, rfl⟩) hS0 ?r42E
              try simp only [Act.put, List.setIfInBounds_toArray, List.set_cons_zero, List.set_cons_succ]
              refine' wpAnyH_take (i := 43) (oi := ⟨some 116, _, _, _, _, _⟩) (v := _) rfl (by kernel_rfl) (by kernel_rfl) (by kernel_rfl) (fun _ _ _ h => h) (Or.inl ⟨by rfl, ?y43E⟩) hS0 ?r43E
              case y43E => (intro w' hSw; obtain ⟨s1, s2, s3⟩ := HC6.out w' hSw; go_simp; try rfl)
              try simp only [Act.put, List.setIfInBounds_toArray, List.set_cons_zero, List.set_cons_succ]
              refine' wpAnyH_take (i := 44) (oi := ⟨some 117, _, _, _, _, _⟩) (v := _) rfl (by kernel_rfl) (by kernel_rfl) (by kernel_rfl) (fun _ _ _ h => h) (Or.inl ⟨by rfl, ?y44E⟩) hS0 ?r44E
              case y44E => (intro w' hSw; obtain ⟨s1, s2, s3⟩ := HC6.out w' hSw; go_simp; try rfl)
              try simp only [Act.put, List.setIfInBounds_toArray, List.set_cons_zero, List.set_cons_succ]
              refine' wpAnyH_take (i := 45) (oi := ⟨some 118, _, _, _, _, _⟩) (v := undef) rfl (by kernel_rfl) (by kernel_rfl) (by kernel_rfl) (fun _ _ _ h => h) (Or.inr ⟨by rfl, rfl⟩) hS0 ?r45E
              try simp only [Act.put, List.setIfInBounds_toArray, List.set_cons_zero, List.set_cons_succ]
              refine' wpAnyH_take (i := 46) (oi := ⟨some 119, _, _, _, _, _⟩) (v := undef) rfl (by kernel_rfl) (by kernel_rfl) (by kernel_rfl) (fun _ _ _ h => h) (Or.inr ⟨by rfl, rfl⟩) hS0 ?r46E
              try simp only [Act.put, List.setIfInBounds_toArray, List.set_cons_zero, List.set_cons_succ]
              refine' wpAnyH_take (i := 47) (oi := ⟨some 120, _, _, _, _, _⟩) (v := undef) rfl (by kernel_rfl) (by kernel_rfl) (by kernel_rfl) (fun _ _ _ h => h) (Or.inr ⟨by rfl, rfl⟩) hS0 ?r47E
              try simp only [Act.put, List.setIfInBounds_toArray, List.set_cons_zero, List.set_cons_succ]
              refine' wpAnyH_take (i := 48) (oi := ⟨some 121, _, _, _, _, _⟩) (v := _) rfl (by kernel_rfl) (by kernel_rfl) (by kernel_rfl) (fun _ _ _ h => h) (Or.inl ⟨by rfl, ?y48E⟩) hS0 ?r48E
              case y48E => (intro w' hSw; obtain ⟨s1, s2, s3⟩ := HC6.out w' hSw; go_simp; try rfl)
              try simp only [Act.put, List.setIfInBounds_toArray, List.set_cons_zero, List.set_cons_succ]
              refine' wpAnyH_take (i := 49) (oi := ⟨some 122, _, _, _, _, _⟩) (v := _) rfl (by kernel_rfl) (by kernel_rfl) (by kernel_rfl) (fun _ _ _ h => h) (Or.inl ⟨by rfl, ?y49E⟩) hS0 ?r49E
              case y49E => (intro w' hSw; obtain ⟨s1, s2, s3⟩ := HC6.out w' hSw; go_simp; try rfl)
              try simp only [Act.put, List.setIfInBounds_toArray, List.set_cons_zero, List.set_cons_succ]
              refine wpAnyH_done (by kernel_rfl) ?_ _
              dsimp only [OnlyNormal]
              gi_wp2_with fail
              gi_meet
              exact ⟨rfl, HD6.out.trans (hS0.mono HD6.out.size)⟩
      case rest =>
        obtain ⟨rfl, hwc⟩ := hcut
        have HWC := Lib.hid hwc
        clear hwc
        obtain ⟨z5, z0, z4⟩ := HCC.out wc HWC.out
        clear hq6 q5' f5'
        have HX6b := Lib.hid (And.intro HX6.out H6.out)
        gi_upto_region 17 with (fail)
        gi_cut [146] from 43 (fun c wx => c = .bool false ∧ Below X6.heap.size X6 wx)
        case first =>
          as_aux_lemma =>
            by_cases hk5 : s.kind = 5
            · have hkb : (s.kind == 5) = true := by rw [beq_iff_eq]; exact hk5
              by_cases h0 : r.1 = 0
              · have h0b : (r.1 == 0) = true := by rw [beq_iff_eq]; exact h0
                obtain ⟨hre, hrn, hnl⟩ := HFACTS.out.2.2 hk5 h0
                rw [← HNB.out] at hrn hnl
                have hnb0 : (0 : Int) ≤ (nb : Int) := by omega
                have hw1 : IntKind.i64.wrap (ro + (nb : Int)) = ro + (nb : Int) := by rw [IntKind.wrap_i64] <;> omega
                have HRM := Lib.hid (HROOMS.out (ro + (nb : Int)) hrn.symm wc HWC.out)
                have hreb : (readE F s.nm.data.toList != 0) = false := by rw [hre]; rfl
                clear hre hrn hnl hk5 h0
                gi_wp2_with fail
                refine ⟨trivial, (callsIn_wide.2 (num_any _ wc)).mono ?_⟩
                rintro e wx ⟨rfl, hwx⟩
                rw [hwx]
                clear hwx wx
                gi_wp2_with fail
                refine ⟨trivial, (callsIn_wide.2 HRM.out).mono ?_⟩
                rintro e Z2 ⟨rfl, hz2⟩
                have HZ2 := Lib.hid (HWC.out.trans (hz2.mono HWC.out.size))
                clear hz2
                gi_wp2_with fail
                gi_meet
                exact ⟨rfl, HZ2.out⟩
              · have h0b : (r.1 == 0) = false := by rw [beq_eq_false_iff_ne]; exact h0
                clear hk5 h0
                gi_wp2_with fail
                refine ⟨trivial, ?_⟩
                gi_wp2_with fail
                all_goals (first
                  | (exact absurd (by assumption) (undef_bool (b := _)))
                  | (gi_meet; exact ⟨rfl, HWC.out⟩)
                  | (refine ⟨trivial, ?_⟩; gi_wp2_with fail; all_goals (first | (exact absurd (by assumption) (undef_bool (b := _))) | (gi_meet; exact ⟨rfl, HWC.out⟩))))
            · have hkb : (s.kind == 5) = false := by rw [beq_eq_false_iff_ne]; exact hk5
              clear hk5
              gi_wp2_with fail
              refine ⟨trivial, ?_⟩
              gi_wp2_with fail
              all_goals (first
                | (exact absurd (by assumption) (undef_bool (b := _)))
                | (gi_meet; exact ⟨rfl, HWC.out⟩)
                | (refine ⟨trivial, ?_⟩; gi_wp2_with fail; all_goals (first | (exact absurd (by assumption) (undef_bool (b := _))) | (gi_meet; exact ⟨rfl, HWC.out⟩))))
        case rest =>
          obtain ⟨rfl, hwc2⟩ := hcut
          clear z5 z0 z4 HWC HX6b
          rename_i X8
          obtain ⟨m5, L5, e5, hd5, hf5⟩ := H6.out.1.below hwc2
          have HF5 := Lib.hid hf5
          have HE5 := Lib.hid e5
          have c5 := H6.out.2.1.below hwc2 H6.out.2.1.lt
          have c4 := H6.out.2.2.1.below hwc2 H6.out.2.2.1.lt
          have cM := H6.out.2.2.2.1.below hwc2
          have cb8 := H6.out.2.2.2.2.trans (hwc2.mono H6.out.2.2.2.2.size)
          obtain ⟨b13, hb13⟩ : ∃ b13, b13 = wc.heap.size := ⟨_, rfl⟩
          obtain ⟨X9, hX9⟩ : ∃ X9, X9 = wc.alloc (.cells #[.int .i64 0] 3) := ⟨_, rfl⟩
          have a9 : Below wc.heap.size wc X9 := by rw [hX9]; exact al1 wc _
          have hB13 : Blk X9 b13 3 #[.int .i64 0] := by rw [hX9, hb13]; exact Blk.new wc _ _
          have hz9 : X9.heap.size = b13 + 1 := by rw [hX9, hb13]; simp
          have hd9 := hd5.below a9
          have q5 : X9.cell? ⟨b5, 0, none⟩ = some (.pointer (some ⟨p5, 0, none⟩)) := by rw [(c5.below a9 c5.lt).cell]; rfl
          have HFI := Lib.hid (files_any hd9)
          have H8 := Lib.hid (And.intro (cb8.trans (a9.mono cb8.size)) (And.intro (c5.below a9 c5.lt) (And.intro (c4.below a9 c4.lt) (And.intro (cM.below a9) (And.intro hd9 hB13)))))
          have HZ9 := Lib.hid (And.intro hz9 (And.intro hb13 (And.intro c5.lt (And.intro (hd5.lt) (show w.heap.size + 1 ≤ wc.heap.size from c4.lt)))))
          have HX9 := Lib.hid hX9
          have HMK := Lib.hid (show ∀ D ∈ Ds, D < b13 from fun D hD => by have := cM.lt D hD; omega)
          rw [hX9] at q5
          clear a9 hB13 hz9 hd9 c5 c4 cM cb8 hd5 hf5 e5 hX9 hwc2 hb13 H6 HX6 HROOMS HCC HFACTS
          gi_wp2_with fail
          rw [← HX9.out, ← HZ9.out.2.1]
          refine ⟨trivial, (callsIn_wide.2 HFI.out).mono ?_⟩
          rintro e X10 ⟨rfl, hnt, hx10⟩
          have hni := hnt.at (Nat.le_refl _) (Nat.le_succ _)
          obtain ⟨b15, hb15⟩ : ∃ b15, b15 = X10.heap.size := ⟨_, rfl⟩
          obtain ⟨X11, hX11⟩ : ∃ X11, X11 = X10.alloc (.cells #[.string ⟨#[]⟩] 9) := ⟨_, rfl⟩
          have a11 : Below X10.heap.size X10 X11 := by rw [hX11]; exact al1 X10 _
          have hz11 : X11.heap.size = b15 + 1 := by rw [hX11, hb15]; simp
          have hni2 := hni.mid (w' := X11) (fun k h1 h2 => a11.block k h2)
          have hst := each_stops Fence.wide 7 trivial rfl (by omega) X9.heap.size (X9.heap.size + 1) X9.heap.size X10.heap.size (L5.map Fo.nm) (L5.map fun f => f.bs.length) (by simp) (by simp; exact H8.out.2.2.2.2.1.few) X11 a11.size hni2
          have HST := Lib.hid hst
          have a911 : Below X9.heap.size X9 X11 := hx10.trans (a11.mono hx10.size)
          have hJ0 : RmJ w p5 m5 b5 b13 b15 X11.heap.size r.2.1 L5 Ds [] X11 := ⟨H8.out.1.trans (a911.mono H8.out.1.size), Nat.le_refl _, H8.out.2.1.below a911 H8.out.2.1.lt, H8.out.2.2.1.below a911 H8.out.2.2.1.lt, H8.out.2.2.2.2.2.below a911 H8.out.2.2.2.2.2.lt, by rw [hX11, hb15]; exact Blk.new X10 _ _, H8.out.2.2.2.2.1.below a911, H8.out.2.2.2.1.below a911, Nat.zero_le _⟩
          have HJ0 := Lib.hid hJ0
          have h911 := a911.size
          have h1011 : X10.heap.size ≤ X11.heap.size := a11.size
          have hord : w.heap.size ≤ X11.heap.size ∧ m5 < X11.heap.size ∧ (∀ D ∈ Ds, D < X11.heap.size) ∧ b13 < X9.heap.size ∧ X9.heap.size ≤ b15 ∧ b15 < X11.heap.size ∧ b5 < b13 ∧ w.heap.size < b13 ∧ (∀ i, Foot p5 m5 L5 i → i < b13) ∧ X10.heap.size = b15 := by
            obtain ⟨z1, z2, z3, z4, z5⟩ := HZ9.out
            have := hx10.size
            have hm5 := z4 m5 (.inr (.inl rfl))
            refine ⟨by omega, by omega, fun D hD => ?_, by omega, by omega, by omega, by omega, by omega, fun i hi => ?_, by omega⟩
            · have := H8.out.2.2.2.1.lt D hD; omega
            · have := z4 i hi; omega
          have HORD := Lib.hid hord
          have HX11 := Lib.hid hX11
          have HB15 := Lib.hid hb15
          clear hnt hni hni2 hst hJ0 a911 a11 hz11 hx10 q5 hord hX11 hb15
          gi_wp2_with fail
          rw [← HX11.out, ← HB15.out]
          refine' wpIn_rangeFunc_ownG rfl (by omega) (gf := 51) (lb := #[.pointer (some ⟨X9.heap.size, 0, none⟩), .pointer (some ⟨X9.heap.size + 1, 0, none⟩)]) rfl trivial (enters_of Try.func51 (by kernel_rfl) rfl)
            HST.out (fun {A B C} h k => Mid.trans h k) (Mid.putObj h1011) (Below.refl _ _) (fun _ => rfl)
            (RmJ w p5 m5 b5 b13 b15 X11.heap.size r.2.1 L5 Ds) (RmX L5) (RmJ.own HORD.out.1 HORD.out.2.1 HORD.out.2.2.1) (fun c pre X Y row h _ _ => h) HJ0.out _ ?assign ?body ?done ?stop
          case assign =>
            intro l x W K hK
            dsimp only [encE]
            gi_wp2
            exact hK
          case stop =>
            rintro D c pre W hD' ⟨k, hk, hpre⟩ ⟨_, hno⟩ hKd
            exfalso
            refine hno ?_
            have hl : pre.length = k := by rw [hpre, List.length_take]; simp at hk ⊢; omega
            rw [hl]
            exact hpre
          case body =>
            as_aux_lemma =>
              intro l pre x W hI hlen
              obtain ⟨hb, hs, c1, c2, c3, c4, d1, hM, hz⟩ := hI
              obtain ⟨f, hf, hx⟩ := ent_is x
              have hx1 : x.1.1 = f.nm := by rw [hx]
              have hx2 : x.1.2 = f.bs.length := by rw [hx]
              rw [hx1, hx2]
              obtain ⟨s', hsn⟩ : ∃ s' : ByteArray, s' = ⟨f.nm.toArray⟩ := ⟨_, rfl⟩
              have hsl : s'.data.toList = f.nm := by rw [hsn]
              rw [← hsn]
              obtain ⟨la, hla⟩ : ∃ la : ByteArray, la = ⟨(lastN pre).toArray⟩ := ⟨_, rfl⟩
              have hll : la.data.toList = lastN pre := by rw [hla]
              rw [← hla] at c4
              obtain ⟨r1, r2, r3⟩ := d1.readIs hf
              rw [← hsl] at r1 r2
              have hmay : mayB s'.data.toList = true := by rw [hsl]; exact (d1.file f hf).may
              have hsh := d1.short hf
              have hm1 : My 0 W p5 r.2.1 (plain L5) := ⟨m5, L5, rfl, d1, fun i _ => Nat.zero_le i⟩
              have RD1 := Lib.hid (my_read_is hm1 s' r1 r2)
              have q5 : W.cell? ⟨b5, 0, none⟩ = some (.pointer (some ⟨p5, 0, none⟩)) := by rw [c1.cell]; rfl
              have hpl : pre.length < 64 := by have := d1.few; have e : (L5.map Fo.nm).length = L5.length := by simp
                                               omega
              have hlast : pre ++ [x] = (allE L5).take (pre ++ [x]).length → bytesBefore la.data.toList s'.data.toList = true := fun h => by
                have := last_lt d1 h
                rw [hx1] at this
                rw [hll, hsl]
                exact this
              have HLAST := Lib.hid hlast
              have HLN := Lib.hid (show (⟨(lastN (pre ++ [x])).toArray⟩ : ByteArray) = s' ∧ sumZ (pre ++ [x]) = sumZ pre + f.bs.length by rw [lastN_snoc, sumZ_snoc, hx1, hx2, hsn]; exact ⟨rfl, rfl⟩)
              have HMY := Lib.hid hmay
              have HI := Lib.hid (And.intro hb (And.intro hs (And.intro c1 (And.intro c2 (And.intro c3 (And.intro c4 (And.intro d1 hM)))))))
              have hzI : (sumZ pre : Int) ≤ 1073741824 := by omega
              have hz0 : (0 : Int) ≤ (sumZ pre : Int) := by omega
              have hshI : (f.bs.length : Int) ≤ 16777216 := by omega
              have hsh0 : (0 : Int) ≤ (f.bs.length : Int) := by omega
              have HSH := Lib.hid (And.intro hz hsh)
              generalize f.bs = bsf at *
              clear hb hs c1 c2 c3 c4 d1 hM hm1 r1 r2 r3 hx hf hx1 hx2 hsn hsl hla hll hlen hpl hmay hsh hlast hz
              gi_wp2_with fail
              refine ⟨trivial, (CallsIn.inRound l (callsIn_wide.2 RD1.out)).mono ?_⟩
              rintro e W1 ⟨A12, c12, rfl, sl12, hb1⟩
              have c15 := HI.out.2.2.2.2.2.1.below hb1 HI.out.2.2.2.2.2.1.lt
              have c13 := HI.out.2.2.2.2.1.below hb1 HI.out.2.2.2.2.1.lt
              have c04 := HI.out.2.2.2.1.below hb1 HI.out.2.2.2.1.lt
              have q15 : W1.cell? ⟨b15, 0, none⟩ = some (.string la) := by rw [c15.cell]; rfl
              have f15 := c15.frozen 0
              have q13 : W1.cell? ⟨b13, 0, none⟩ = some (.int .i64 (sumZ pre : Int)) := by rw [c13.cell]; rfl
              have f13 := c13.frozen 0
              have q04 : W1.cell? ⟨w.heap.size, 0, none⟩ = some (.bool false) := by rw [c04.cell]; rfl
              have f04 := c04.frozen 0
              have HW1 := Lib.hid hb1
              have HC15 := Lib.hid (And.intro c15 (And.intro c13 c04))
              clear hb1 sl12 q5 RD1 c15 c13 c04
              by_cases hbb : bytesBefore la.data.toList s'.data.toList = true
              · clear HLAST
                have hb1 : Op.bytesLess s'.toList la.toList = false := by
                  rw [less_before, ByteArray.toList_eq, ByteArray.toList_eq]
                  cases hc : bytesBefore s'.data.toList la.data.toList with
                  | false => rfl
                  | true => exact absurd (Lt.trans (show Lt la.data.toList s'.data.toList from hbb) (show Lt s'.data.toList la.data.toList from hc)) (Lt.irrefl _)
                have hb2 : (s'.toList == la.toList) = false := by
                  rw [beq_eq_false_iff_ne, ByteArray.toList_eq, ByteArray.toList_eq]
                  exact fun e => Lt.irrefl la.data.toList (by have h : Lt la.data.toList s'.data.toList := hbb; rw [e] at h; exact h)
                have hmy := mayName_any s' W1
                rw [HMY.out] at hmy
                have HMN := Lib.hid hmy
                clear hmy hbb
                gi_wp2_with fail
                refine ⟨trivial, (CallsIn.inRound l (callsIn_wide.2 HMN.out)).mono ?_⟩
                rintro e W2 ⟨rfl, hbm⟩
                have c15 := HC15.out.1.below hbm HC15.out.1.lt
                have c13 := HC15.out.2.1.below hbm HC15.out.2.1.lt
                have HW2 := Lib.hid (HW1.out.trans (hbm.mono HW1.out.size))
                clear hbm q15 f15 q13 f13 q04 f04 hb1 hb2
                gi_wp2_with fail
                refine ⟨trivial, (CallsIn.inRound l (callsIn_wide.2 (num_any 0 W2))).mono ?_⟩
                rintro e wx ⟨rfl, hwx⟩
                rw [hwx]
                clear hwx wx
                obtain ⟨o1, o2, o3, o4, o5, o6, o7, o8, o9, o10⟩ := HORD.out
                have q15 : W2.cell? ⟨b15, 0, none⟩ = some (.string la) := by rw [c15.cell]; rfl
                have f15 := c15.frozen 0
                have c13' : Blk (W2.setCell ⟨b15, 0, none⟩ (.string s')) b13 3 #[.int .i64 (sumZ pre : Int)] := c13.far (p := ⟨b15, 0, none⟩) (by show b13 ≠ b15; omega) _
                have c15' : Blk (W2.setCell ⟨b15, 0, none⟩ (.string s')) b15 9 #[.string s'] := c15.set_ 0 _
                have q13 : (W2.setCell ⟨b15, 0, none⟩ (.string s')).cell? ⟨b13, 0, none⟩ = some (.int .i64 (sumZ pre : Int)) := by rw [c13'.cell]; rfl
                have f13 := c13'.frozen 0
                have hw13 : IntKind.i64.wrap ((sumZ pre : Int) + (bsf.length : Int)) = (sumZ pre : Int) + (bsf.length : Int) := by rw [IntKind.wrap_i64] <;> omega
                obtain ⟨W3, hW3⟩ : ∃ W3, W3 = (W2.setCell ⟨b15, 0, none⟩ (.string s')).setCell ⟨b13, 0, none⟩ (.int .i64 ((sumZ pre : Int) + (bsf.length : Int))) := ⟨_, rfl⟩
                have hkk : Keep (fun i => i = b15 ∨ i = b13) W W3 := by
                  rw [hW3]
                  exact ((Keep.of_below (S := fun i => i = b15 ∨ i = b13) HW2.out).trans (Keep.setCell (S := fun i => i = b15 ∨ i = b13) _ _ _ (.inl rfl)) (fun _ h => h) (fun _ _ h => h)).trans (Keep.setCell (S := fun i => i = b15 ∨ i = b13) _ _ _ (.inr rfl)) (fun _ h => h) (fun _ _ h => h)
                have n13 : Blk W3 b13 3 #[.int .i64 ((sumZ pre : Int) + (bsf.length : Int))] := by rw [hW3]; exact c13'.set_ 0 _
                have n15 : Blk W3 b15 9 #[.string s'] := by rw [hW3]; exact c15'.far (p := ⟨b13, 0, none⟩) (by show b15 ≠ b13; omega) _
                have hbw3 : Below w.heap.size w W3 := by
                  rw [hW3]
                  exact ((HI.out.1.trans (HW2.out.mono HI.out.1.size)).setCell (p := ⟨b15, 0, none⟩) (by show w.heap.size ≤ b15; omega) _).setCell (p := ⟨b13, 0, none⟩) (by show w.heap.size ≤ b13; omega) _
                have hJ1 : RmJ w p5 m5 b5 b13 b15 X11.heap.size r.2.1 L5 Ds (pre ++ [x]) W3 := by
                  refine ⟨hbw3, Nat.le_trans HI.out.2.1 hkk.size, HI.out.2.2.1.kept hkk (fun e => by omega), HI.out.2.2.2.1.kept hkk (fun e => by omega), ?_, ?_, HI.out.2.2.2.2.2.2.1.kept hkk (fun i hi e => by have := o9 i hi; omega), HI.out.2.2.2.2.2.2.2.kept (fun D hD => hkk.block D (HI.out.2.2.2.2.2.2.2.lt D hD) (fun e => by have := HMK.out D hD; omega)), ?_⟩
                  · rw [HLN.out.2, show ((sumZ pre + bsf.length : Nat) : Int) = (sumZ pre : Int) + (bsf.length : Int) by omega]
                    exact n13
                  · rw [HLN.out.1]
                    exact n15
                  · rw [HLN.out.2, List.length_append, List.length_singleton]
                    have := HSH.out
                    omega
                have hkf := keepsFrom_of_keep (B := X11.heap.size) hkk (fun i e => by omega)
                have hmd : Mid X9.heap.size X10.heap.size W W3 := Mid.of_keep hkk (by have := HI.out.2.1; omega) (fun k h1 h2 e => by omega)
                rw [hW3] at hkf hmd hJ1
                have HE := Lib.hid (And.intro hkf (And.intro hmd hJ1))
                clear hkf hmd hJ1 hkk n13 n15 hbw3 hW3 c13' c15' c13 c15 o1 o2 o3 o4 o5 o6 o7 o8 o9 o10
                gi_wp2
                exact ⟨HE.out.1, HE.out.2.1, HE.out.2.2⟩
              · have hno := Lib.hid (fun h => hbb (HLAST.out h))
                have hkk : Keep (fun i => i = w.heap.size) W (W1.setCell ⟨w.heap.size, 0, none⟩ (.bool false)) := (Keep.of_below (S := fun i => i = w.heap.size) HW1.out).trans (Keep.setCell (S := fun i => i = w.heap.size) _ _ _ rfl) (fun _ h => h) (fun _ _ h => h)
                have HKF := Lib.hid (keepsFrom_of_keep (B := X11.heap.size) hkk (fun i e => by obtain ⟨o1, o2, o3, o4, o5, o6, o7, o8, o9, o10⟩ := HORD.out; omega))
                clear hkk
                by_cases hl : Op.bytesLess s'.toList la.toList = true
                · clear hbb
                  gi_wp2_with fail
                  refine ⟨trivial, ?_⟩
                  gi_wp2_with fail
                  refine ⟨trivial, ?_⟩
                  gi_wp2
                  exact ⟨HKF.out, rfl, hno.out⟩
                · have hl2 : Op.bytesLess s'.toList la.toList = false := by simpa using hl
                  have he : (s'.toList == la.toList) = true := by
                    rw [beq_iff_eq, ByteArray.toList_eq, ByteArray.toList_eq]
                    rw [less_before, ByteArray.toList_eq, ByteArray.toList_eq] at hl
                    apply Classical.byContradiction
                    intro hne
                    rcases Lt.total hne with h | h
                    · exact hl h
                    · exact hbb h
                  clear hbb hl
                  gi_wp2_with fail
                  refine ⟨trivial, ?_⟩
                  gi_wp2_with fail
                  refine ⟨trivial, ?_⟩
                  gi_wp2
                  exact ⟨HKF.out, rfl, hno.out⟩
          case done =>
            as_aux_lemma =>
              rintro D xs W hD' rfl ⟨hb, hs, c1, c2, c3, c4, d1, hM, hz⟩ hKd
              rw [show sumZ ((L5.map Fo.nm).zip (L5.map fun f => f.bs.length)).attach = total L5 from sumZ_all L5] at c3
              have hcp := d1.room
              rw [HNUM.out.1] at hcp
              have hrm := my_room (show My 0 W p5 r.2.1 (plain L5) from ⟨m5, L5, rfl, d1, fun i _ => Nat.zero_le i⟩)
              rw [total_plain, HNUM.out.1] at hrm
              clear hz
              obtain ⟨tn, htn⟩ : ∃ tn, tn = total L5 := ⟨_, rfl⟩
              rw [← htn] at c3 hcp hrm
              obtain ⟨rn, hrn⟩ : ∃ rn : Int, rn = (cn : Int) - (tn : Int) := ⟨_, rfl⟩
              have hw32 : IntKind.i64.wrap ((tn : Int) + rn) = (cn : Int) := by have := HCN.out; rw [IntKind.wrap_i64] <;> omega
              have hdW : Below W.heap.size W W.drew := (Below.refl _ _).drew
              have HRW := Lib.hid (show ∀ X, Below W.drew.heap.size W.drew X → Calls Try.prog 28 #[.pointer (some ⟨p5, 0, none⟩)] X fun e W' => e = .returned (.int .i64 rn) ∧ Below X.heap.size X W' from fun X hX => by
                have := my_room (show My 0 X p5 r.2.1 (plain L5) from ⟨m5, L5, rfl, d1.below (hdW.trans (hX.mono hdW.size)), fun i _ => Nat.zero_le i⟩)
                rw [total_plain, HNUM.out.1, ← htn, ← hrn] at this
                exact this)
              have HCW := Lib.hid (show ∀ X, Below W.drew.heap.size W.drew X → X.cell? ⟨b13, 0, none⟩ = some (.int .i64 (tn : Int)) ∧ X.cell? ⟨b5, 0, none⟩ = some (.pointer (some ⟨p5, 0, none⟩)) from fun X hX => by
                have hX' := hdW.trans (hX.mono hdW.size)
                exact ⟨by rw [(c3.below hX' c3.lt).cell]; rfl, by rw [(c1.below hX' c1.lt).cell]; rfl⟩)
              have hDl : D < W.heap.size := (Array.getElem?_eq_some_iff.1 hKd).1
              have HFIN := Lib.hid (show ∀ Z, Below W.heap.size W Z → RmR w cn b5 L (mark D :: Ds.map mark) (.int .i64 ((i : Int) + 1)) Z from fun Z hZ => by
                obtain ⟨o1, o2, o3, o4, o5, o6, o7, o8, o9, o10⟩ := HORD.out
                refine ⟨i + 1, p5, r.2.1, r.2.2, D :: Ds, by simp, rfl, HLT.out, ⟨m5, L5, HE5.out, d1.below hZ, fun k hk => ⟨(HF5.out k hk).1, (HF5.out k hk).2.1, fun e => ?_⟩⟩, HNUM.out.1, HNUM.out.2, c1.below hZ c1.lt, c2.below hZ c2.lt, hb.trans (hZ.mono hb.size), by omega, (hZ.block D hDl).trans hKd, fun E hE => by have := HMK.out E hE; omega, hM.below hZ⟩
                rcases List.mem_cons.1 e with rfl | e
                · have := o9 _ hk; omega
                · exact (HF5.out k hk).2.2 e)
              have HDW := Lib.hid hdW
              clear hb hs c1 c2 c3 c4 d1 hM hKd hcp hrm htn hrn hdW hDl
              gi_wp2_with fail
              refine wpIn_only (wpIn_wide.2 ?_)
              refine wp_region_held_drew (S := fun X => Below W.drew.heap.size W.drew X) hfo (Below.refl _ _) (fun hS0 => ?_)
              refine' wpAnyH_take (i := 0) (oi := ⟨some 183, _, _, _, _, _⟩) (v := _) rfl (by kernel_rfl) (by kernel_rfl) (by kernel_rfl) (fun _ _ _ h => h) (Or.inl ⟨by rfl, ?y0z⟩) hS0 ?r0z
              case y0z => (intro w' hSw; obtain ⟨s1, s2⟩ := HCW.out w' hSw; go_simp; try rfl)
              try simp only [Act.put, List.setIfInBounds_toArray, List.set_cons_zero, List.set_cons_succ]
              refine' wpAnyH_take (i := 1) (oi := ⟨some 184, _, _, _, _, _⟩) (v := _) rfl (by kernel_rfl) (by kernel_rfl) (by kernel_rfl) (fun _ _ _ h => h) (Or.inl ⟨by rfl, ?y1z⟩) hS0 ?r1z
              case y1z => (intro w' hSw; obtain ⟨s1, s2⟩ := HCW.out w' hSw; go_simp; try rfl)
              try simp only [Act.put, List.setIfInBounds_toArray, List.set_cons_zero, List.set_cons_succ]
              refine' wpAnyH_take (i := 4) (oi := ⟨some 187, _, _, _, _, _⟩) (v := _) rfl (by kernel_rfl) (by kernel_rfl) (by kernel_rfl) (fun _ _ _ h => h) (Or.inl ⟨by rfl, ?y4z⟩) hS0 ?r4z
              case y4z => (intro w' hSw; obtain ⟨s1, s2⟩ := HCW.out w' hSw; go_simp; try rfl)
              try simp only [Act.put, List.setIfInBounds_toArray, List.set_cons_zero, List.set_cons_succ]
              refine held_one (i := 2) (by kernel_rfl) rfl (fun K hK => ?_)
              go_simp
              refine (HRW.out _ hS0).mono ?_
              rintro e Z2 ⟨rfl, hz2⟩
              have hS1 := hS0.trans (hz2.mono hS0.size)
              clear hz2
              refine hK.out _ _ hS1 (fun _ => ?_)
              clear hK K
              try simp only [Act.put, List.setIfInBounds_toArray, List.set_cons_zero, List.set_cons_succ]
              refine' wpAnyH_take (i := 3) (oi := ⟨some 186, _, _, _, _, _⟩) (v := _) rfl (by kernel_rfl) (by kernel_rfl) (by kernel_rfl) (fun _ _ _ h => h) (Or.inl ⟨by rfl, ?y3z⟩) hS1 ?r3z
              case y3z => (intro w' hSw; obtain ⟨s1, s2⟩ := HCW.out w' hSw; go_simp; try rfl)
              try simp only [Act.put, List.setIfInBounds_toArray, List.set_cons_zero, List.set_cons_succ]
              refine' wpAnyH_take (i := 5) (oi := ⟨some 188, _, _, _, _, _⟩) (v := _) rfl (by kernel_rfl) (by kernel_rfl) (by kernel_rfl) (fun _ _ _ h => h) (Or.inl ⟨by rfl, ?y5z⟩) hS1 ?r5z
              case y5z => (intro w' hSw; obtain ⟨s1, s2⟩ := HCW.out w' hSw; go_simp; try rfl)
              try simp only [Act.put, List.setIfInBounds_toArray, List.set_cons_zero, List.set_cons_succ]
              refine wpAnyH_done (by kernel_rfl) ?_ _
              dsimp only [OnlyNormal]
              have HZF := Lib.hid (HFIN.out Z2 (HDW.out.trans (hS1.mono HDW.out.size)))
              clear HFIN
              gi_wp2
              refine ⟨?_, ?_⟩
              · unfold RmI
                repeat apply Exists.intro
                refine ⟨?_, rfl⟩
                exact HZF.out
              · have := HLT.out
                simp [intOf]
                omega
    · obtain rfl : i = L.length := by omega
      clear hlt hi
      have hM := HDS.out
      gi_wp2_with fail
      refine ⟨trivial, (callsIn_wide.2 (known_law wr)).mono ?_⟩
      rintro e wk ⟨rfl, hbk⟩
      have c4 := HR.out.below hbk HR.out.lt
      have q4 : wk.cell? ⟨w.heap.size, 0, none⟩ = some (.bool false) := by rw [c4.cell]; rfl
      have f4 := c4.frozen 0
      have hM2 := hM.below hbk
      have hR3 : Blk (wk.setCell ⟨w.heap.size, 0, none⟩ (.bool true)) w.heap.size 4 #[.bool true] := c4.set_ 0 _
      have hb2 : Below w.heap.size w (wk.setCell ⟨w.heap.size, 0, none⟩ (.bool true)) := (HBW.out.trans (hbk.mono HBW.out.size)).setCell (p := ⟨w.heap.size, 0, none⟩) (Nat.le_refl _) _
      have hM3 : Marks (w.heap.size + 1) (wk.setCell ⟨w.heap.size, 0, none⟩ (.bool true)) Ds := hM2.kept (fun D hD => Below.heap_setCell _ _ _ D (fun e => by have := (hM2.open D hD).1; have e : D = w.heap.size := e; omega))
      have hb3 := putAll_below Ds (Nat.le_refl _) hb2 (fun D hD => by have := (hM3.open D hD).1; omega)
      have hR4 := putAll_blk Ds hM3 hR3
      have HM3 := Lib.hid hM3
      have HE := Lib.hid hb3
      have HC5 := Lib.hid (show (putAll (wk.setCell ⟨w.heap.size, 0, none⟩ (.bool true)) Ds).cell? ⟨w.heap.size, 0, none⟩ = some (.bool true) by rw [hR4.cell]; rfl)
      clear hM hM2 hR3 hb2 hM3 hb3 hR4 c4 hbk
      gi_wp2
      refine leaves_marks Ds _ HM3.out ?_
      have hc5 := HC5.out
      refine ⟨.bool true, ?_, rfl, HE.out⟩
      simp [results, Try.f6, go_sem, hc5]
end Go.Proofs.Ytdbkhigocjmfoaa

/-
  The walk of the document's press: its rounds.
-/
import Derived.Test.YthlopecllhdmhaaDoorShaRefPress
import Derived.IntWalk
import Derived.Deep.CutBlock
namespace Go.Proofs.YthlopecllhdmhaaDoor
open Go.RowKit
set_option linter.unusedVariables false
set_option linter.unusedSimpArgs false

theorem slu_cell {w : World} {g o n c : Nat} {l : List Nat} (h : Slu w (.slice (some ⟨g, o, none⟩) n c) l) (j : Nat) (hj : j < n) : w.cell? ⟨g, o + j, none⟩ = some (.int .u32 (l.getD j 0 : Int)) := by
  have hn := h.len
  obtain ⟨A, c2, e, _, ha⟩ := h
  injection e with e1 e2 e3
  subst e1
  obtain ⟨g2, o2, e4, hx⟩ := ha (by omega)
  injection e4 with e4
  injection e4 with e5 e6
  subst e5 e6
  have hj2 : j < l.length := by omega
  rw [hx j hj2, List.getD_eq_getElem?_getD, List.getElem?_eq_getElem hj2]; rfl
theorem t2_any (e f g h k w rr : Nat) (he : e < 4294967296) (hg : g < 4294967296) (hr : rots e [6, 11, 25] = rr) : ((((h : Int) + (rr : Int) + bits BinOp.xor IntKind.u32 ((e &&& f : Nat) : Int) (bits BinOp.and IntKind.u32 (bits BinOp.xor IntKind.u32 (if IntKind.u32.signed = true then -1 else IntKind.u32.max) (e : Int)) (g : Int))) + (k : Int)) % 4294967296 + (w : Int)) % 4294967296 = ((tN e f g h k w : Nat) : Int) := by
  rw [show (if IntKind.u32.signed = true then (-1 : Int) else IntKind.u32.max) = IntKind.u32.max from rfl, chE2 e he, chE3 e g he hg, u32_xor_nat _ _ (and_lt he) (and_lt (by omega))]
  unfold tN
  rw [hr]
  generalize (e &&& f) ^^^ ((4294967295 - e) &&& g) = ch
  unfold addN
  omega
theorem wordsN_take (b : List UInt8) (k : Nat) (h : k < 16) : (wordsN b).take (k + 1) = (wordsN b).take k ++ [beN ((b.drop (4 * k)).take 4)] := by
  have hl : k < (wordsN b).length := by rw [wordsN_length]; exact h
  rw [List.take_succ_eq_append_getElem hl]
  congr 2
  simp [wordsN]
  rfl
theorem ror_any' (x n : Nat) (w : World) (hx : x < 4294967296) (h1 : 1 ≤ n) (h2 : n ≤ 31) :
    Calls Tryd.prog 53 #[.int .u32 (x : Int), .int .u64 (n : Int)] w fun e w' => e = .returned (.int .u32 (rorN x n : Int)) ∧ w' = w :=
  (refRor_any x n w hx h1 h2).mono fun _ _ ⟨a, b⟩ => ⟨a, b.symm⟩
theorem rots2 (x a b : Nat) : rots x [a, b] = rorN x a ^^^ rorN x b := by
  show (0 ^^^ rorN x a) ^^^ rorN x b = _
  rw [Nat.zero_xor]
theorem s0_ror (x : Nat) : s0N x = (rorN x 7 ^^^ rorN x 18) ^^^ (x / 8) := by unfold s0N; rw [rots2]
theorem s1_ror (x : Nat) : s1N x = (rorN x 17 ^^^ rorN x 19) ^^^ (x / 1024) := by unfold s1N; rw [rots2]
theorem rots3 (x a b c : Nat) : rots x [a, b, c] = (rorN x a ^^^ rorN x b) ^^^ rorN x c := by
  show ((0 ^^^ rorN x a) ^^^ rorN x b) ^^^ rorN x c = _
  rw [Nat.zero_xor]

/-- The code's blocks that hold a loop, one behind the other: the n-th. -/
def blocksOf : Code → List Code
  | .seq a b => blocksOf a ++ blocksOf b
  | .block n c => [.block n c]
  | .scope c => blocksOf c
  | _ => []
noncomputable def pressRounds : Code := ((blocksOf (Tryd.f46.body.getD .skip)).getD 2 .skip)

set_option maxRecDepth 100000 in
set_option maxHeartbeats 4000000 in
theorem press_rounds (s : St) (w W4 : World) (R Z : Array Value) (wl : List Nat) (gk ok_ cK g o c7 gv : Nat) (Q : Exit → Act → World → Prop) {z0 z1 z4 z5 z8 z9 z10 z11 z12 z13 z16 z17 z18 z19 z20 z21 z22 z23 z24 z25 z26 z27 z28 z29 z30 z31 z32 z33 z34 z35 z36 z37 z38 z39 z40 z41 z42 z43 z44 z45 z46 z47 z48 z49 z50 z51 z52 z53 z54 z55 z56 z57 z58 z59 z60 z61 z62 z63 z64 z65 z66 z67 z68 z69 z70 z71 z72 z73 z74 z75 z76 z77 z78 z79 z80 z81 z82 z83 z84 z85 z86 z87 z88 z89 z90 z91 z92 z93 z94 z95 z96 z97 z98 z99 z100 z101 z102 z103 z104 z105 z106 z107 z108 z109 z110 z111 z112 z113 z114 z115 z116 z117 z118 z119 z120 z121 z122 z123 z124 z125 z126 z127 z128 z129 z130 z131 z132 z133 z134 z135 z136 z137 z138 z139 z140 z141 z142 z143 z144 z145 z146 z147 z148 z149 z150 z151 z152 z153 z154 z155 z156 z157 z158 z159 z160 z161 z162 z163 z164 z165 z166 z167 z168 z169 z170 z171 z172 z173 z174 z175 z176 z177 z178 z179 z180 z181 z182 z183 : Value}
    (hok : s.ok)
    (HKC : Hid (∀ w', Below w.heap.size w w' → ∀ j, j < 64 → w'.cell? ⟨gk, ok_ + j, none⟩ = some (.int .u32 (kAt j : Int))))
    (HW3 : Hid (∀ x ∈ wl, x < 4294967296)) (hgl : g < gv) (hsz : w.heap.size + 2 ≤ gv)
    (hcl : ∀ j, j < 64 → W4.cell? ⟨g, o + j, none⟩ = some (.int .u32 (wl.getD j 0 : Int))) (hB0 : Blk W4 w.heap.size 73 R) (hB1 : Blk W4 (w.heap.size + 1) 73 Z) (hV : Blk W4 gv 73 (rounds wl s 0).row) (hbw : Below w.heap.size w W4)
    (hexit : ∀ (y15 y16 y17 y18 y19 y20 y21 y22 y23 y90 y91 y92 y93 y94 y95 y96 y97 y98 y99 y100 y101 y102 y103 y104 y105 y106 y107 y108 y109 y110 y111 y112 y113 y114 y115 y116 y117 y118 y119 y120 y121 y122 y123 y124 y125 y126 y127 y128 y129 y130 y131 y132 y133 y134 y135 y136 y137 y138 y139 y140 y141 y142 y143 y144 y145 y146 y147 y148 y149 y150 y151 y152 y153 y154 y155 y156 y157 y158 y159 y160 y161 y162 y163 y164 y165 y166 y167 y168 y169 : Value) (wr : World), Blk wr w.heap.size 73 R → Blk wr (w.heap.size + 1) 73 Z → Blk wr gv 73 (rounds wl s 64).row → Below w.heap.size w wr → Q .normal ⟨#[z0, z1, .slice (some ⟨gk, ok_, none⟩) 64 cK, .pointer (some ⟨w.heap.size, 0, none⟩), z4, z5, .pointer (some ⟨w.heap.size + 1, 0, none⟩), .slice (some ⟨g, o, none⟩) 64 c7, z8, z9, z10, z11, z12, z13, .pointer (some ⟨gv, 0, none⟩), y15, y16, y17, y18, y19, y20, y21, y22, y23, z24, z25, z26, z27, z28, z29, z30, z31, z32, z33, z34, z35, z36, z37, z38, z39, z40, z41, z42, z43, z44, z45, z46, z47, z48, z49, z50, z51, z52, z53, z54, z55, z56, z57, z58, z59, z60, z61, z62, z63, z64, z65, z66, z67, z68, z69, z70, z71, z72, z73, z74, z75, z76, z77, z78, z79, z80, z81, z82, z83, z84, z85, z86, z87, z88, z89, y90, y91, y92, y93, y94, y95, y96, y97, y98, y99, y100, y101, y102, y103, y104, y105, y106, y107, y108, y109, y110, y111, y112, y113, y114, y115, y116, y117, y118, y119, y120, y121, y122, y123, y124, y125, y126, y127, y128, y129, y130, y131, y132, y133, y134, y135, y136, y137, y138, y139, y140, y141, y142, y143, y144, y145, y146, y147, y148, y149, y150, y151, y152, y153, y154, y155, y156, y157, y158, y159, y160, y161, y162, y163, y164, y165, y166, y167, y168, y169, z170, z171, z172, z173, z174, z175, z176, z177, z178, z179, z180, z181, z182, z183], []⟩ wr) :
    Code.wp Tryd.prog pressRounds Q ⟨#[z0, z1, .slice (some ⟨gk, ok_, none⟩) 64 cK, .pointer (some ⟨w.heap.size, 0, none⟩), z4, z5, .pointer (some ⟨w.heap.size + 1, 0, none⟩), .slice (some ⟨g, o, none⟩) 64 c7, z8, z9, z10, z11, z12, z13, .pointer (some ⟨gv, 0, none⟩), .int .i64 0, z16, z17, z18, z19, z20, z21, z22, z23, z24, z25, z26, z27, z28, z29, z30, z31, z32, z33, z34, z35, z36, z37, z38, z39, z40, z41, z42, z43, z44, z45, z46, z47, z48, z49, z50, z51, z52, z53, z54, z55, z56, z57, z58, z59, z60, z61, z62, z63, z64, z65, z66, z67, z68, z69, z70, z71, z72, z73, z74, z75, z76, z77, z78, z79, z80, z81, z82, z83, z84, z85, z86, z87, z88, z89, z90, z91, z92, z93, z94, z95, z96, z97, z98, z99, z100, z101, z102, z103, z104, z105, z106, z107, z108, z109, z110, z111, z112, z113, z114, z115, z116, z117, z118, z119, z120, z121, z122, z123, z124, z125, z126, z127, z128, z129, z130, z131, z132, z133, z134, z135, z136, z137, z138, z139, z140, z141, z142, z143, z144, z145, z146, z147, z148, z149, z150, z151, z152, z153, z154, z155, z156, z157, z158, z159, z160, z161, z162, z163, z164, z165, z166, z167, z168, z169, z170, z171, z172, z173, z174, z175, z176, z177, z178, z179, z180, z181, z182, z183], []⟩ W4 := by
  have HE := Lib.hid hexit
  clear hexit
  conv => arg 2; whnf
  go_wp2
  go_loopw [15] (fun z wr => ∃ k : Nat, k ≤ 64 ∧ z = .int .i64 (k : Int) ∧ (∀ j, j < 64 → wr.cell? ⟨g, o + j, none⟩ = some (.int .u32 (wl.getD j 0 : Int))) ∧ Blk wr w.heap.size 73 R ∧ Blk wr (w.heap.size + 1) 73 Z ∧ Blk wr gv 73 (rounds wl s k).row ∧ Below w.heap.size w wr) (fun z _ => 64 - (intOf z).toNat)
  case atStart => exact ⟨0, Nat.zero_le _, rfl, hcl, hB0, hB1, hV, hbw⟩
  case round =>
    clear hcl hB0 hB1 hV hbw
    obtain ⟨k, hk, rfl, hcl, hF0, hF1, hF, hbF⟩ := hrel
    by_cases hlt : k < 64
    · have hRo := rounds_ok (w := wl) hok k
      have hwx := getD_lt HW3.out k
      have HR := Lib.hid (show rounds wl s (k + 1) = roundN (kAt k) (wl.getD k 0) (rounds wl s k) from rfl)
      have hck := HKC.out wr hbF k hlt
      have hcw := hcl k hlt
      have hkk := kAt_lt k
      have HCL := Lib.hid hcl
      clear hcl
      generalize rounds wl s k = q at hF hRo HR
      generalize wl.getD k 0 = x at hcw hwx HR
      generalize kAt k = kk at hck hkk HR
      obtain ⟨qa, qb, qc, qd, qe, qf, qg, qh⟩ := q
      obtain ⟨ha, hb, hc, hd, he, hf, hg', hh⟩ := hRo
      replace HR := Lib.hid (show rounds wl s (k + 1) = ⟨addN (tN qe qf qg qh kk x) (uN qa qb qc), qa, qb, qc, addN qd (tN qe qf qg qh kk x), qe, qf, qg⟩ from HR.out)
      have c0 : wr.cell? ⟨gv, 0, none⟩ = some (.int .u32 (qa : Int)) := hF.cell 0
      have c1 : wr.cell? ⟨gv, 1, none⟩ = some (.int .u32 (qb : Int)) := hF.cell 1
      have c2 : wr.cell? ⟨gv, 2, none⟩ = some (.int .u32 (qc : Int)) := hF.cell 2
      have c4 : wr.cell? ⟨gv, 4, none⟩ = some (.int .u32 (qe : Int)) := hF.cell 4
      have c5 : wr.cell? ⟨gv, 5, none⟩ = some (.int .u32 (qf : Int)) := hF.cell 5
      have c6 : wr.cell? ⟨gv, 6, none⟩ = some (.int .u32 (qg : Int)) := hF.cell 6
      go_wp2
      go_quiet (fail)
      have d7 : (wr.drewN nq).cell? ⟨gv, 7, none⟩ = some (.int .u32 (qh : Int)) := hF.cell 7
      have dk : (wr.drewN nq).cell? ⟨gk, ok_ + k, none⟩ = some (.int .u32 (kk : Int)) := hck
      have dw : (wr.drewN nq).cell? ⟨g, o + k, none⟩ = some (.int .u32 (x : Int)) := hcw
      have gF := hF.drewN nq
      have gF0 := hF0.drewN nq
      have gF1 := hF1.drewN nq
      have gbF := below_drewN hbF nq
      replace HCL := Lib.hid (show ∀ j, j < 64 → (wr.drewN nq).cell? ⟨g, o + j, none⟩ = some (.int .u32 (wl.getD j 0 : Int)) from HCL.out)
      clear c0 c1 c2 c4 c5 c6 hF hF0 hF1 hbF hck hcw
      generalize wr.drewN nq = wr1 at d7 dk dw gF gF0 gF1 gbF HCL ⊢
      have ra := rorN_lt qe 6 he
      have rb := rorN_lt qe 11 he
      have rc := rorN_lt qe 25 he
      have f1 := u32_xor_nat (rorN qe 6) (rorN qe 11) ra rb
      have f2 : bits .xor .u32 ((rorN qe 6 ^^^ rorN qe 11 : Nat) : Int) (rorN qe 25 : Int) = (rots qe [6, 11, 25] : Int) := by rw [rots3, u32_xor_nat _ _ (xor_lt ra rb) rc]
      have e1 := chE1 qe qf he
      have hk63 : k ≤ 63 := by omega
      go_wp2
      go_quiet ((go_at_call 53; exact Calls.quiet_of_same (ror_any' _ _ _ he (by decide) (by decide))))
      rw [t2_any qe qf qg qh kk x _ he hg' rfl]
      have mF := gF.drewN nq
      have mF0 := gF0.drewN nq
      have mF1 := gF1.drewN nq
      have mbF := below_drewN gbF nq
      replace HCL := Lib.hid (show ∀ j, j < 64 → (wr1.drewN nq).cell? ⟨g, o + j, none⟩ = some (.int .u32 (wl.getD j 0 : Int)) from HCL.out)
      clear d7 dk dw gF gF0 gF1 gbF f1 f2 ra rb rc e1
      generalize wr1.drewN nq = wr2 at mF mF0 mF1 mbF HCL ⊢
      generalize tN qe qf qg qh kk x = tt at HR ⊢
      generalize rots qe [6, 11, 25] = rr6
      have ra := rorN_lt qa 2 ha
      have rb := rorN_lt qa 13 ha
      have rc := rorN_lt qa 22 ha
      have f1 := u32_xor_nat (rorN qa 2) (rorN qa 13) ra rb
      have f2 : bits .xor .u32 ((rorN qa 2 ^^^ rorN qa 13 : Nat) : Int) (rorN qa 22 : Int) = (rots qa [2, 13, 22] : Int) := by rw [rots3, u32_xor_nat _ _ (xor_lt ra rb) rc]
      have k1 := chE1 qa qb ha
      have k2 := chE1 qa qc ha
      have k3 := u32_xor_nat (qa &&& qb) (qa &&& qc) (and_lt ha) (and_lt ha)
      have k4 := chE1 qb qc hb
      have k5 := u32_xor_nat ((qa &&& qb) ^^^ (qa &&& qc)) (qb &&& qc) (xor_lt (and_lt ha) (and_lt ha)) (and_lt hb)
      go_wp2_with fail
      refine (refRor_any qa 2 wr2 ha (by decide) (by decide)).mono ?_
      rintro e w' ⟨rfl, rfl⟩
      go_wp2_with fail
      refine (refRor_any qa 13 wr2 ha (by decide) (by decide)).mono ?_
      rintro e w' ⟨rfl, rfl⟩
      go_wp2_with fail
      refine (refRor_any qa 22 wr2 ha (by decide) (by decide)).mono ?_
      rintro e w' ⟨rfl, rfl⟩
      go_upto_region 20 with (fail)
      have ET := Lib.hid (u_any tt qa qb qc)
      generalize uN qa qb qc = uu at HR ET
      generalize rots qa [2, 13, 22] = rr2 at ET ⊢
      clear k1 k2 k3 k4 k5 f1 f2 ra rb rc
      have d3 : wr2.cell? ⟨gv, 3, none⟩ = some (.int .u32 (qd : Int)) := mF.cell 3
      have ED := Lib.hid (addN_any qd tt)
      generalize addN tt uu = ta at ET HR
      generalize addN qd tt = td at ED HR
      have hth : wr2.there gv 0 8 := mF.there
      have hnew : Blk (wr2.setCells gv 0 [.int .u32 (ta : Int), .int .u32 (qa : Int), .int .u32 (qb : Int), .int .u32 (qc : Int), .int .u32 (td : Int), .int .u32 (qe : Int), .int .u32 (qf : Int), .int .u32 (qg : Int)]) gv 73 #[.int .u32 (ta : Int), .int .u32 (qa : Int), .int .u32 (qb : Int), .int .u32 (qc : Int), .int .u32 (td : Int), .int .u32 (qe : Int), .int .u32 (qf : Int), .int .u32 (qg : Int)] := mF.setRow (ds := #[.int .u32 (ta : Int), .int .u32 (qa : Int), .int .u32 (qb : Int), .int .u32 (qc : Int), .int .u32 (td : Int), .int .u32 (qe : Int), .int .u32 (qf : Int), .int .u32 (qg : Int)]) (size8 _ _ _ _ _ _ _ _ _)
      have hgr := grown_setCells gv [.int .u32 (ta : Int), .int .u32 (qa : Int), .int .u32 (qb : Int), .int .u32 (qc : Int), .int .u32 (td : Int), .int .u32 (qe : Int), .int .u32 (qf : Int), .int .u32 (qg : Int)] 0 wr2
      have oF0 := mF0.grown hgr (by intro e; injection e with e; omega)
      have oF1 := mF1.grown hgr (by intro e; injection e with e; omega)
      have obF := Below.only mbF hgr (by omega) mbF.size
      have HCX := Lib.hid (show ∀ j, j < 64 → (wr2.setCells gv 0 [.int .u32 (ta : Int), .int .u32 (qa : Int), .int .u32 (qb : Int), .int .u32 (qc : Int), .int .u32 (td : Int), .int .u32 (qe : Int), .int .u32 (qf : Int), .int .u32 (qg : Int)]).cell? ⟨g, o + j, none⟩ = some (.int .u32 (wl.getD j 0 : Int)) from fun j hj => hgr.cell (HCL.out j hj) (by simp; omega))
      have HN := Lib.hid hnew
      have H0 := Lib.hid oF0
      have H1 := Lib.hid oF1
      have HX := Lib.hid obF
      clear hgr hnew oF0 oF1 obF HCL
      go_wp2_with (refine store8 rfl (.tmp 14) (.tmp 169) rfl ?_; refine ⟨gv, _, _, _, _, _, _, _, _, rfl, rfl, hth, ?_⟩; rw [ET.out, ED.out]; generalize wr2.setCells gv 0 [.int .u32 (ta : Int), .int .u32 (qa : Int), .int .u32 (qb : Int), .int .u32 (qc : Int), .int .u32 (td : Int), .int .u32 (qe : Int), .int .u32 (qf : Int), .int .u32 (qg : Int)] = W5 at HN H0 H1 HX HCX ⊢)
      clear d3 hth mF mF0 mF1 mbF
      go_roundw
      case rel => exact ⟨k + 1, by omega, by go_num, HCX.out, H0.out, H1.out, by rw [HR.out]; exact HN.out, HX.out⟩
      case measure => simp [intOf]; omega
    · obtain rfl : k = 64 := by omega
      clear hcl
      go_wp2_with fail
      exact HE.out _ _ _ _ _ _ _ _ _ _ _ _ _ _ _ _ _ _ _ _ _ _ _ _ _ _ _ _ _ _ _ _ _ _ _ _ _ _ _ _ _ _ _ _ _ _ _ _ _ _ _ _ _ _ _ _ _ _ _ _ _ _ _ _ _ _ _ _ _ _ _ _ _ _ _ _ _ _ _ _ _ _ _ _ _ _ _ _ _ _ hF0 hF1 hF hbF

noncomputable def pressWords : Code := ((blocksOf (Tryd.f46.body.getD .skip)).getD 1 .skip)

set_option maxRecDepth 100000 in
set_option maxHeartbeats 4000000 in
theorem press_words (w W4 : World) (R Z : Array Value) (ws : List Nat) (i0 : TypeInfo) (Q : Exit → Act → World → Prop) (x7 : Value) {z0 z1 z2 z3 z4 z5 z6 z8 z10 z11 z12 z13 z14 z15 z16 z17 z18 z19 z20 z21 z22 z23 z24 z25 z26 z27 z28 z29 z30 z31 z32 z33 z34 z35 z36 z37 z38 z39 z40 z41 z42 z43 z44 z45 z46 z47 z48 z49 z50 z51 z52 z53 z54 z55 z56 z57 z58 z59 z60 z61 z62 z63 z64 z65 z66 z67 z68 z69 z70 z71 z72 z73 z74 z75 z76 z77 z78 z79 z80 z81 z82 z83 z84 z85 z86 z87 z88 z89 z90 z91 z92 z93 z94 z95 z96 z97 z98 z99 z100 z101 z102 z103 z104 z105 z106 z107 z108 z109 z110 z111 z112 z113 z114 z115 z116 z117 z118 z119 z120 z121 z122 z123 z124 z125 z126 z127 z128 z129 z130 z131 z132 z133 z134 z135 z136 z137 z138 z139 z140 z141 z142 z143 z144 z145 z146 z147 z148 z149 z150 z151 z152 z153 z154 z155 z156 z157 z158 z159 z160 z161 z162 z163 z164 z165 z166 z167 z168 z169 z170 z171 z172 z173 z174 z175 z176 z177 z178 z179 z180 z181 z182 z183 : Value}
    (hi : Tryd.prog.info? 72 = some i0) (hz0 : i0.zero = some (.int .u32 0)) (hz1 : i0.size = 1) (hz2 : i0.bytes = 4)
    (hwok : ∀ x ∈ ws, x < 4294967296) (hwl : ws.length = 16) (ho : OwnU W4 (w.heap.size + 2) x7 ws) (hB0 : Blk W4 w.heap.size 73 R) (hB1 : Blk W4 (w.heap.size + 1) 73 Z) (hbw : Below w.heap.size w W4) (hsz : w.heap.size + 2 ≤ W4.heap.size)
    (hpan : ∀ (c : List PanicEntry) (a : Act) (d : Option Tmp) (v : Value) (w : World), Q (.panic c) (a.put d v) w → Q (.panic c) a w)
    (hexit : ∀ (y9 y10 y11 y12 y13 y41 y42 y43 y44 y45 y46 y47 y48 y49 y50 y51 y52 y53 y54 y55 y56 y57 y58 y59 y60 y61 y62 y63 y64 y65 y66 y67 y68 y69 y70 y71 y72 y73 y74 y75 y76 y77 y78 y79 y80 y81 y82 y83 y84 y85 y86 y87 y88 v7 : Value) (wr : World), OwnU wr (w.heap.size + 2) v7 (sched ws 48) → Blk wr w.heap.size 73 R → Blk wr (w.heap.size + 1) 73 Z → Below w.heap.size w wr → w.heap.size + 2 ≤ wr.heap.size → Q .normal ⟨#[z0, z1, z2, z3, z4, z5, z6, v7, z8, y9, y10, y11, y12, y13, z14, z15, z16, z17, z18, z19, z20, z21, z22, z23, z24, z25, z26, z27, z28, z29, z30, z31, z32, z33, z34, z35, z36, z37, z38, z39, z40, y41, y42, y43, y44, y45, y46, y47, y48, y49, y50, y51, y52, y53, y54, y55, y56, y57, y58, y59, y60, y61, y62, y63, y64, y65, y66, y67, y68, y69, y70, y71, y72, y73, y74, y75, y76, y77, y78, y79, y80, y81, y82, y83, y84, y85, y86, y87, y88, z89, z90, z91, z92, z93, z94, z95, z96, z97, z98, z99, z100, z101, z102, z103, z104, z105, z106, z107, z108, z109, z110, z111, z112, z113, z114, z115, z116, z117, z118, z119, z120, z121, z122, z123, z124, z125, z126, z127, z128, z129, z130, z131, z132, z133, z134, z135, z136, z137, z138, z139, z140, z141, z142, z143, z144, z145, z146, z147, z148, z149, z150, z151, z152, z153, z154, z155, z156, z157, z158, z159, z160, z161, z162, z163, z164, z165, z166, z167, z168, z169, z170, z171, z172, z173, z174, z175, z176, z177, z178, z179, z180, z181, z182, z183], []⟩ wr) :
    Code.wp Tryd.prog pressWords Q ⟨#[z0, z1, z2, z3, z4, z5, z6, x7, z8, .int .i64 16, z10, z11, z12, z13, z14, z15, z16, z17, z18, z19, z20, z21, z22, z23, z24, z25, z26, z27, z28, z29, z30, z31, z32, z33, z34, z35, z36, z37, z38, z39, z40, z41, z42, z43, z44, z45, z46, z47, z48, z49, z50, z51, z52, z53, z54, z55, z56, z57, z58, z59, z60, z61, z62, z63, z64, z65, z66, z67, z68, z69, z70, z71, z72, z73, z74, z75, z76, z77, z78, z79, z80, z81, z82, z83, z84, z85, z86, z87, z88, z89, z90, z91, z92, z93, z94, z95, z96, z97, z98, z99, z100, z101, z102, z103, z104, z105, z106, z107, z108, z109, z110, z111, z112, z113, z114, z115, z116, z117, z118, z119, z120, z121, z122, z123, z124, z125, z126, z127, z128, z129, z130, z131, z132, z133, z134, z135, z136, z137, z138, z139, z140, z141, z142, z143, z144, z145, z146, z147, z148, z149, z150, z151, z152, z153, z154, z155, z156, z157, z158, z159, z160, z161, z162, z163, z164, z165, z166, z167, z168, z169, z170, z171, z172, z173, z174, z175, z176, z177, z178, z179, z180, z181, z182, z183], []⟩ W4 := by
  have HE := Lib.hid hexit
  clear hexit
  conv => arg 2; whnf
  go_wp2
  go_loopw [7, 9] (fun x z wr => ∃ k : Nat, k ≤ 48 ∧ z = .int .i64 ((16 + k : Nat) : Int) ∧ OwnU wr (w.heap.size + 2) x (sched ws k) ∧ Blk wr w.heap.size 73 R ∧ Blk wr (w.heap.size + 1) 73 Z ∧ Below w.heap.size w wr ∧ w.heap.size + 2 ≤ wr.heap.size) (fun _ z _ => 64 - (intOf z).toNat)
  case atStart => exact ⟨0, Nat.zero_le _, rfl, ho, hB0, hB1, hbw, hsz⟩
  case round =>
    clear ho hB0 hB1 hbw hsz
    obtain ⟨k, hk48, rfl, ho, hB0, hB1, hbw, hsz⟩ := hrel
    have hok2 := sched_ok ws hwok k
    have hsl := sched_length ws hwl k
    obtain ⟨A7, n7, c7, rfl⟩ := ho.shape
    have hn7 := ho.slu.len
    rw [hsl] at hn7
    subst hn7
    obtain ⟨A8, c8, e8, hcc, hcx⟩ := ho.slu
    injection e8 with e81 e82 e83
    subst e81 e83
    obtain ⟨g, o, rfl, hcell⟩ := hcx (by omega)
    have hcl : ∀ j, j < 16 + k → wr.cell? ⟨g, o + j, none⟩ = some (.int .u32 ((sched ws k).getD j 0 : Int)) := by
      intro j hj
      have hj2 : j < (sched ws k).length := by omega
      rw [hcell j hj2, List.getD_eq_getElem?_getD, List.getElem?_eq_getElem hj2]; rfl
    clear hcell hcx e82 hcc
    by_cases hlt : k < 48
    · have c15 := hcl (16 + k - 15) (by omega)
      have c2 := hcl (16 + k - 2) (by omega)
      have c16 := hcl (16 + k - 16) (by omega)
      have c7' := hcl (16 + k - 7) (by omega)
      have l15 := getD_lt hok2 (16 + k - 15)
      have l2 := getD_lt hok2 (16 + k - 2)
      have l16 := getD_lt hok2 (16 + k - 16)
      have l7 := getD_lt hok2 (16 + k - 7)
      have HN := Lib.hid (show nextW (sched ws k) (16 + k) = addN (addN (addN ((sched ws k).getD (16 + k - 16) 0) (s0N ((sched ws k).getD (16 + k - 15) 0))) ((sched ws k).getD (16 + k - 7) 0)) (s1N ((sched ws k).getD (16 + k - 2) 0)) from rfl)
      have HS := Lib.hid (show sched ws (k + 1) = sched ws k ++ [nextW (sched ws k) (16 + k)] from rfl)
      have HT := Lib.hid (show (16 + (k + 1)) = (16 + k) + 1 from rfl)
      have h16 : 16 ≤ 16 + k := by omega
      have h63 : 16 + k ≤ 63 := by omega
      have HLL := Lib.hid (show (sched ws k).length ≤ 1000000 by omega)
      have HKeep := Lib.hid (show ∀ w', Slu w' (.slice (some ⟨g, o, none⟩) (16 + k) c7) (sched ws k) → w'.cell? ⟨g, o + (16 + k - 16), none⟩ = some (.int .u32 ((sched ws k).getD (16 + k - 16) 0 : Int)) ∧ w'.cell? ⟨g, o + (16 + k - 7), none⟩ = some (.int .u32 ((sched ws k).getD (16 + k - 7) 0 : Int)) from fun w' h => ⟨slu_cell h _ (by omega), slu_cell h _ (by omega)⟩)
      clear hok2 hcl hsl
      generalize (sched ws k).getD (16 + k - 15) 0 = x15 at c15 l15 HN
      generalize (sched ws k).getD (16 + k - 2) 0 = x2 at c2 l2 HN
      generalize (sched ws k).getD (16 + k - 16) 0 = x16 at c16 l16 HN HKeep
      generalize (sched ws k).getD (16 + k - 7) 0 = x7 at c7' l7 HN HKeep
      generalize nextW (sched ws k) (16 + k) = nw at HN HS
      have i15 : ((16 + k : Nat) : Int) - 15 = ((16 + k - 15 : Nat) : Int) := by omega
      have i2 : ((16 + k : Nat) : Int) - 2 = ((16 + k - 2 : Nat) : Int) := by omega
      have i16 : ((16 + k : Nat) : Int) - 16 = ((16 + k - 16 : Nat) : Int) := by omega
      have i7 : ((16 + k : Nat) : Int) - 7 = ((16 + k - 7 : Nat) : Int) := by omega
      have b15 : 16 + k - 15 < 16 + k := by omega
      have b2 : 16 + k - 2 < 16 + k := by omega
      have b16 : 16 + k - 16 < 16 + k := by omega
      have b7 : 16 + k - 7 < 16 + k := by omega
      generalize 16 + k - 15 = n15 at c15 i15 b15
      generalize 16 + k - 2 = n2 at c2 i2 b2
      generalize 16 + k - 16 = n16 at c16 i16 b16 HKeep
      generalize 16 + k - 7 = n7 at c7' i7 b7 HKeep
      generalize 16 + k = i at *
      go_wp2
      go_quiet (fail)
      have hoQ : OwnU (wr.drewN nq) (w.heap.size + 2) (.slice (some ⟨g, o, none⟩) i c7) (sched ws k) := ho
      have q0 := hB0.drewN nq
      have q1 := hB1.drewN nq
      have qb := below_drewN hbw nq
      have qs : w.heap.size + 2 ≤ (wr.drewN nq).heap.size := hsz
      have d16 : (wr.drewN nq).cell? ⟨g, o + n16, none⟩ = some (.int .u32 (x16 : Int)) := c16
      have d7 : (wr.drewN nq).cell? ⟨g, o + n7, none⟩ = some (.int .u32 (x7 : Int)) := c7'
      clear c15 c2 c16 c7' ho hB0 hB1 hbw hsz i15 i2 b15 b2
      generalize wr.drewN nq = wr1 at hoQ q0 q1 qb qs d16 d7 ⊢
      have ra := rorN_lt x15 7 l15
      have rb := rorN_lt x15 18 l15
      have f1 := u32_xor_nat (rorN x15 7) (rorN x15 18) ra rb
      have f2 : bits .xor .u32 ((rorN x15 7 ^^^ rorN x15 18 : Nat) : Int) ((x15 : Int) / 8) = ((s0N x15 : Nat) : Int) := by rw [s0_ror x15, ← u32_xor_nat _ _ (xor_lt ra rb) (by omega)]; simp
      go_wp2_with fail
      refine (refRor_any x15 7 wr1 l15 (by decide) (by decide)).mono ?_
      rintro e w' ⟨rfl, rfl⟩
      go_wp2_with fail
      refine (refRor_any x15 18 wr1 l15 (by decide) (by decide)).mono ?_
      rintro e w' ⟨rfl, rfl⟩
      generalize rorN x15 7 = a1 at ra f1 f2 ⊢
      generalize rorN x15 18 = a2 at rb f1 f2 ⊢
      generalize a1 ^^^ a2 = a3 at f1 f2
      generalize s0N x15 = y15 at f2 HN
      go_upto_region 11 with (fail)
      clear f1 f2 ra rb
      have ra := rorN_lt x2 17 l2
      have rb := rorN_lt x2 19 l2
      have f1 := u32_xor_nat (rorN x2 17) (rorN x2 19) ra rb
      have f2 : bits .xor .u32 ((rorN x2 17 ^^^ rorN x2 19 : Nat) : Int) ((x2 : Int) / 1024) = ((s1N x2 : Nat) : Int) := by rw [s1_ror x2, ← u32_xor_nat _ _ (xor_lt ra rb) (by omega)]; simp
      go_wp2_with fail
      refine (refRor_any x2 17 wr1 l2 (by decide) (by decide)).mono ?_
      rintro e w' ⟨rfl, rfl⟩
      go_wp2_with fail
      refine (refRor_any x2 19 wr1 l2 (by decide) (by decide)).mono ?_
      rintro e w' ⟨rfl, rfl⟩
      generalize rorN x2 17 = a1 at ra f1 f2 ⊢
      generalize rorN x2 19 = a2 at rb f1 f2 ⊢
      generalize a1 ^^^ a2 = a3 at f1 f2
      generalize s1N x2 = y2 at f2 HN
      go_upto_region 12 with (fail)
      clear f1 f2 ra rb
      have HLT := Lib.hid (show g < wr1.heap.size from World.block_lt_of_cell? wr1 _ d16)
      have wn16 : IntKind.i64.wrap (n16 : Int) = (n16 : Int) := IntWalk.i64_in _ (by omega)
      have wn7 : IntKind.i64.wrap (n7 : Int) = (n7 : Int) := IntWalk.i64_in _ (by omega)
      refine wp_region_held_drew (S := fun w' => w'.cell? ⟨g, o + n16, none⟩ = some (.int .u32 (x16 : Int)) ∧ w'.cell? ⟨g, o + n7, none⟩ = some (.int .u32 (x7 : Int))) (by as_aux_lemma => kernel_rfl) ⟨d16, d7⟩ (fun _ => ?_)
      replace hoQ := hoQ.drew
      replace q0 := q0.drew
      replace q1 := q1.drew
      replace qb := qb.drew
      replace qs : w.heap.size + 2 ≤ wr1.drew.heap.size := qs
      replace d16 : wr1.drew.cell? ⟨g, o + n16, none⟩ = some (.int .u32 (x16 : Int)) := d16
      replace d7 : wr1.drew.cell? ⟨g, o + n7, none⟩ = some (.int .u32 (x7 : Int)) := d7
      replace HLT := Lib.hid (show g < wr1.drew.heap.size from HLT.out)
      generalize wr1.drew = x0 at hoQ q0 q1 qb qs d16 d7 HLT ⊢
      refine' wpAnyH_take (i := 0) (oi := ⟨some 71, _, _, _, _, _⟩) (v := _) rfl (by as_aux_lemma => kernel_rfl) (by as_aux_lemma => kernel_rfl) (by as_aux_lemma => kernel_rfl) (fun _ _ _ h => hpan _ _ _ _ _ h) (Or.inl ⟨by rfl, ?y0⟩) ⟨d16, d7⟩ ?r0
      case y0 => (intro w' hSw; go_simp; try rfl)
      try simp only [Act.put, List.setIfInBounds_toArray, List.set_cons_zero, List.set_cons_succ]
      refine' wpAnyH_take (i := 1) (oi := ⟨some 72, _, _, _, _, _⟩) (v := _) rfl (by as_aux_lemma => kernel_rfl) (by as_aux_lemma => kernel_rfl) (by as_aux_lemma => kernel_rfl) (fun _ _ _ h => hpan _ _ _ _ _ h) (Or.inl ⟨by rfl, ?y1⟩) ⟨d16, d7⟩ ?r1
      case y1 => (intro w' hSw; go_simp; try rfl)
      try simp only [Act.put, List.setIfInBounds_toArray, List.set_cons_zero, List.set_cons_succ]
      refine' wpAnyH_take (i := 2) (oi := ⟨some 73, _, _, _, _, _⟩) (v := _) rfl (by as_aux_lemma => kernel_rfl) (by as_aux_lemma => kernel_rfl) (by as_aux_lemma => kernel_rfl) (fun _ _ _ h => hpan _ _ _ _ _ h) (Or.inl ⟨by rfl, ?y2⟩) ⟨d16, d7⟩ ?r2
      case y2 => (intro w' hSw; go_simp; try rfl)
      try simp only [Act.put, List.setIfInBounds_toArray, List.set_cons_zero, List.set_cons_succ]
      refine' wpAnyH_take (i := 3) (oi := ⟨some 74, _, _, _, _, _⟩) (v := _) rfl (by as_aux_lemma => kernel_rfl) (by as_aux_lemma => kernel_rfl) (by as_aux_lemma => kernel_rfl) (fun _ _ _ h => hpan _ _ _ _ _ h) (Or.inl ⟨by rfl, ?y3⟩) ⟨d16, d7⟩ ?r3
      case y3 => (intro w' hSw; go_simp; try rfl)
      try simp only [Act.put, List.setIfInBounds_toArray, List.set_cons_zero, List.set_cons_succ]
      refine' wpAnyH_take (i := 4) (oi := ⟨some 75, _, _, _, _, _⟩) (v := _) rfl (by as_aux_lemma => kernel_rfl) (by as_aux_lemma => kernel_rfl) (by as_aux_lemma => kernel_rfl) (fun _ _ _ h => hpan _ _ _ _ _ h) (Or.inl ⟨by rfl, ?y4⟩) ⟨d16, d7⟩ ?r4
      case y4 => (intro w' hSw; go_simp; try rfl)
      try simp only [Act.put, List.setIfInBounds_toArray, List.set_cons_zero, List.set_cons_succ]
      refine' wpAnyH_take (i := 5) (oi := ⟨some 76, _, _, _, _, _⟩) (v := _) rfl (by as_aux_lemma => kernel_rfl) (by as_aux_lemma => kernel_rfl) (by as_aux_lemma => kernel_rfl) (fun _ _ _ h => hpan _ _ _ _ _ h) (Or.inl ⟨by rfl, ?y5⟩) ⟨d16, d7⟩ ?r5
      case y5 => (intro w' hSw; obtain ⟨k1, k2⟩ := hSw; go_simp; try rfl)
      try simp only [Act.put, List.setIfInBounds_toArray, List.set_cons_zero, List.set_cons_succ]
      refine' wpAnyH_take (i := 6) (oi := ⟨some 77, _, _, _, _, _⟩) (v := _) rfl (by as_aux_lemma => kernel_rfl) (by as_aux_lemma => kernel_rfl) (by as_aux_lemma => kernel_rfl) (fun _ _ _ h => hpan _ _ _ _ _ h) (Or.inl ⟨by rfl, ?y6⟩) ⟨d16, d7⟩ ?r6
      case y6 => (intro w' hSw; go_simp; try rfl)
      try simp only [Act.put, List.setIfInBounds_toArray, List.set_cons_zero, List.set_cons_succ]
      refine' wpAnyH_take (i := 7) (oi := ⟨some 78, _, _, _, _, _⟩) (v := (.int .u32 ((addN x16 y15 : Nat) : Int))) rfl (by as_aux_lemma => kernel_rfl) (by as_aux_lemma => kernel_rfl) (by as_aux_lemma => kernel_rfl) (fun _ _ _ h => hpan _ _ _ _ _ h) (Or.inl ⟨by rfl, ?y7⟩) ⟨d16, d7⟩ ?r7
      case y7 => (intro w' hSw; have e := addN_any x16 y15; go_simp; try rfl)
      try simp only [Act.put, List.setIfInBounds_toArray, List.set_cons_zero, List.set_cons_succ]
      have p1l := addN_lt x16 y15
      generalize addN x16 y15 = p1 at HN p1l ⊢
      refine' wpAnyH_take (i := 8) (oi := ⟨some 79, _, _, _, _, _⟩) (v := _) rfl (by as_aux_lemma => kernel_rfl) (by as_aux_lemma => kernel_rfl) (by as_aux_lemma => kernel_rfl) (fun _ _ _ h => hpan _ _ _ _ _ h) (Or.inl ⟨by rfl, ?y8⟩) ⟨d16, d7⟩ ?r8
      case y8 => (intro w' hSw; go_simp; try rfl)
      try simp only [Act.put, List.setIfInBounds_toArray, List.set_cons_zero, List.set_cons_succ]
      refine' wpAnyH_take (i := 9) (oi := ⟨some 80, _, _, _, _, _⟩) (v := _) rfl (by as_aux_lemma => kernel_rfl) (by as_aux_lemma => kernel_rfl) (by as_aux_lemma => kernel_rfl) (fun _ _ _ h => hpan _ _ _ _ _ h) (Or.inl ⟨by rfl, ?y9⟩) ⟨d16, d7⟩ ?r9
      case y9 => (intro w' hSw; go_simp; try rfl)
      try simp only [Act.put, List.setIfInBounds_toArray, List.set_cons_zero, List.set_cons_succ]
      refine' wpAnyH_take (i := 10) (oi := ⟨some 81, _, _, _, _, _⟩) (v := _) rfl (by as_aux_lemma => kernel_rfl) (by as_aux_lemma => kernel_rfl) (by as_aux_lemma => kernel_rfl) (fun _ _ _ h => hpan _ _ _ _ _ h) (Or.inl ⟨by rfl, ?y10⟩) ⟨d16, d7⟩ ?r10
      case y10 => (intro w' hSw; go_simp; try rfl)
      try simp only [Act.put, List.setIfInBounds_toArray, List.set_cons_zero, List.set_cons_succ]
      refine' wpAnyH_take (i := 11) (oi := ⟨some 82, _, _, _, _, _⟩) (v := _) rfl (by as_aux_lemma => kernel_rfl) (by as_aux_lemma => kernel_rfl) (by as_aux_lemma => kernel_rfl) (fun _ _ _ h => hpan _ _ _ _ _ h) (Or.inl ⟨by rfl, ?y11⟩) ⟨d16, d7⟩ ?r11
      case y11 => (intro w' hSw; go_simp; try rfl)
      try simp only [Act.put, List.setIfInBounds_toArray, List.set_cons_zero, List.set_cons_succ]
      refine' wpAnyH_take (i := 12) (oi := ⟨some 83, _, _, _, _, _⟩) (v := _) rfl (by as_aux_lemma => kernel_rfl) (by as_aux_lemma => kernel_rfl) (by as_aux_lemma => kernel_rfl) (fun _ _ _ h => hpan _ _ _ _ _ h) (Or.inl ⟨by rfl, ?y12⟩) ⟨d16, d7⟩ ?r12
      case y12 => (intro w' hSw; obtain ⟨k1, k2⟩ := hSw; go_simp; try rfl)
      try simp only [Act.put, List.setIfInBounds_toArray, List.set_cons_zero, List.set_cons_succ]
      refine' wpAnyH_take (i := 13) (oi := ⟨some 84, _, _, _, _, _⟩) (v := (.int .u32 ((addN p1 x7 : Nat) : Int))) rfl (by as_aux_lemma => kernel_rfl) (by as_aux_lemma => kernel_rfl) (by as_aux_lemma => kernel_rfl) (fun _ _ _ h => hpan _ _ _ _ _ h) (Or.inl ⟨by rfl, ?y13⟩) ⟨d16, d7⟩ ?r13
      case y13 => (intro w' hSw; have e := addN_any p1 x7; go_simp; try rfl)
      try simp only [Act.put, List.setIfInBounds_toArray, List.set_cons_zero, List.set_cons_succ]
      have p2l := addN_lt p1 x7
      generalize addN p1 x7 = p2 at HN p2l ⊢
      refine' wpAnyH_take (i := 14) (oi := ⟨some 85, _, _, _, _, _⟩) (v := _) rfl (by as_aux_lemma => kernel_rfl) (by as_aux_lemma => kernel_rfl) (by as_aux_lemma => kernel_rfl) (fun _ _ _ h => hpan _ _ _ _ _ h) (Or.inl ⟨by rfl, ?y14⟩) ⟨d16, d7⟩ ?r14
      case y14 => (intro w' hSw; go_simp; try rfl)
      try simp only [Act.put, List.setIfInBounds_toArray, List.set_cons_zero, List.set_cons_succ]
      refine' wpAnyH_take (i := 15) (oi := ⟨some 86, _, _, _, _, _⟩) (v := (.int .u32 ((addN p2 y2 : Nat) : Int))) rfl (by as_aux_lemma => kernel_rfl) (by as_aux_lemma => kernel_rfl) (by as_aux_lemma => kernel_rfl) (fun _ _ _ h => hpan _ _ _ _ _ h) (Or.inl ⟨by rfl, ?y15⟩) ⟨d16, d7⟩ ?r15
      case y15 => (intro w' hSw; have e := addN_any p2 y2; go_simp; try rfl)
      try simp only [Act.put, List.setIfInBounds_toArray, List.set_cons_zero, List.set_cons_succ]
      rw [← HN.out]
      refine held_one (i := 16) (by kernel_rfl) rfl (fun K hK => ?_)
      go_simp
      have hal : Below x0.heap.size x0 (x0.alloc (.cells #[.int .u32 (nw : Int)] 72)) := (Below.refl _ _).alloc (Nat.le_refl _) _
      have d16' := (hal.cell (p := ⟨g, o + n16, none⟩) HLT.out).trans d16
      have d7' := (hal.cell (p := ⟨g, o + n7, none⟩) HLT.out).trans d7
      refine hK.out _ _ ⟨d16', d7'⟩ (fun _ => ?_)
      clear hK K
      have oA := hoQ.alloc (.cells #[.int .u32 (nw : Int)] 72)
      have cA : (x0.alloc (.cells #[.int .u32 (nw : Int)] 72)).cell? ⟨x0.heap.size, 0, none⟩ = some (.int .u32 (nw : Int)) := (Blk.new x0 72 #[.int .u32 (nw : Int)]).cell 0
      have b0A := q0.alloc (.cells #[.int .u32 (nw : Int)] 72)
      have b1A := q1.alloc (.cells #[.int .u32 (nw : Int)] 72)
      have bbA := qb.alloc qb.size (.cells #[.int .u32 (nw : Int)] 72)
      have szA : w.heap.size + 2 ≤ (x0.alloc (.cells #[.int .u32 (nw : Int)] 72)).heap.size := by simp; omega
      clear hoQ q0 q1 qb qs d16 d7 d16' d7' hal
      generalize x0.alloc (.cells #[.int .u32 (nw : Int)] 72) = x1 at oA cA b0A b1A bbA szA ⊢
      try simp only [Act.put, List.setIfInBounds_toArray, List.set_cons_zero, List.set_cons_succ]
      refine held_one (i := 17) (by kernel_rfl) rfl (fun K hK => ?_)
      refine step_append_u32k _ rfl _ _ 74 rfl (w.heap.size + 2) i0 Tryd.underlying74 hi hz0 hz1 hz2 _ (sched ws k) (by rfl) oA x0.heap.size nw (by rfl) cA HLL.out szA ?_
      intro v' wz ho2 hgr hslu
      have hB0' := b0A.appended oA hgr (by omega)
      have hB1' := b1A.appended oA hgr (by omega)
      have hb' := below_append bbA oA hgr (by omega) (by omega)
      have hsz' : w.heap.size + 2 ≤ wz.heap.size := Nat.le_trans szA hgr.size
      have HO2 := Lib.hid ho2
      have HKK := HKeep.out wz hslu
      refine hK.out _ _ HKK (fun _ => ?_)
      clear hK K
      clear ho2 hgr oA cA b0A b1A bbA szA hslu
      try simp only [Act.put, List.setIfInBounds_toArray, List.set_cons_zero, List.set_cons_succ]
      refine' wpAnyH_take (i := 18) (oi := ⟨some 7, _, _, _, _, _⟩) (v := _) rfl (by as_aux_lemma => kernel_rfl) (by as_aux_lemma => kernel_rfl) (by as_aux_lemma => kernel_rfl) (fun _ _ _ h => hpan _ _ _ _ _ h) (Or.inl ⟨by rfl, ?y18⟩) HKK ?r18
      case y18 => (intro w' hSw; go_simp; try rfl)
      try simp only [Act.put, List.setIfInBounds_toArray, List.set_cons_zero, List.set_cons_succ]
      refine wpAnyH_done (by as_aux_lemma => kernel_rfl) ?_ _
      clear HKK HKeep i16 i7 b16 b7 wn16 wn7
      go_wp2_with fail
      go_roundw
      case rel => exact ⟨k + 1, by omega, by rw [HT.out]; go_num, by rw [HS.out]; exact HO2.out, hB0', hB1', hb', hsz'⟩
      case measure => simp [intOf]; omega
    · obtain rfl : k = 48 := by omega
      rw [show ((16 + 48 : Nat) : Int) = 64 from rfl]
      clear hcl hok2
      have HO := Lib.hid ho
      clear ho
      go_wp2_with fail
      exact HE.out _ _ _ _ _ _ _ _ _ _ _ _ _ _ _ _ _ _ _ _ _ _ _ _ _ _ _ _ _ _ _ _ _ _ _ _ _ _ _ _ _ _ _ _ _ _ _ _ _ _ _ _ _ _ _ HO.out hB0 hB1 hbw hsz
end Go.Proofs.YthlopecllhdmhaaDoor

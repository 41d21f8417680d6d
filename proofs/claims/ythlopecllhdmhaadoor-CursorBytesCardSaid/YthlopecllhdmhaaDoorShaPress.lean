/-
  The walk of sha.pressed.
-/
import Derived.Test.YthlopecllhdmhaaDoorShaStretch
import Derived.Test.YthlopecllhdmhaaDoorHeldA
import Derived.Deep.DeepCutAuto
namespace Go.Proofs.YthlopecllhdmhaaDoor
open Go.RowKit
set_option linter.unusedVariables false

def St.list (s : St) : List Nat := [s.a, s.b, s.c, s.d, s.e, s.f, s.g, s.h]
def St.row (s : St) : Array Value := rowU s.list
theorem St.row_size (s : St) : s.row.size = 8 := rfl
theorem info_w8 : (Tryd.prog.info? 73).map (·.size) = some 8 := by kernel_rfl
theorem St.row_info (s : St) : (Tryd.prog.info? 73).map (·.size) = some s.row.size := info_w8
theorem St.row_one (s : St) : s.row.all (·.oneCell') = true := rowU_one _

/-- The start and the constants lie where the program lays them. -/
def Gl (w : World) : Prop := (∃ t f, w.heap[0]? = some (.cells shaS.row t f)) ∧ (∃ t f, w.heap[1]? = some (.cells (rowU shaK) t f))
theorem Gl.below {w w' : World} (h : Gl w) (hb : Below w.heap.size w w') : Gl w' := by
  obtain ⟨⟨t, f, h0⟩, ⟨t1, f1, h1⟩⟩ := h
  have l0 : 0 < w.heap.size := by
    rcases Nat.lt_or_ge 0 w.heap.size with hlt | hge
    · exact hlt
    · rw [Array.getElem?_eq_none hge] at h0; cases h0
  have l1 : 1 < w.heap.size := by
    rcases Nat.lt_or_ge 1 w.heap.size with hlt | hge
    · exact hlt
    · rw [Array.getElem?_eq_none hge] at h1; cases h1
  exact ⟨⟨t, f, (hb.block 0 l0).trans h0⟩, ⟨t1, f1, (hb.block 1 l1).trans h1⟩⟩
theorem Gl.k {w : World} (h : Gl w) (i : Nat) (hi : i < 64) : w.cell? ⟨1, i, none⟩ = some (.int .u32 (kAt i : Int)) := by
  obtain ⟨_, ⟨t, f, h1⟩⟩ := h
  rw [cell_of_row w 1 i _ t f h1, rowU_getD (show i < shaK.length from hi)]
  rfl
theorem Gl.drew {w : World} (h : Gl w) : Gl w.drew := h
theorem Gl.drewN {w : World} (h : Gl w) (n : Nat) : Gl (w.drewN n) := h

theorem info_u32 : (Tryd.prog.info? 72).map (·.size) = some 1 := by kernel_rfl
/-- 'a[i]' of an array by value. -/
theorem index_row (t : TypeId) (n : Nat) (cs : Array Value) (i : Nat) (v : Value) (w : World) (h : Tryd.prog.underlying t = some (.array n 72)) (hi : i < n) (hv : cs[i]? = some v) :
    (Instr.index t (.agg cs) (.int .i64 (i : Int))).run Tryd.prog w = .ok v w := by
  have hn : (0 : Int) ≤ (i : Int) ∧ (i : Int) < (n : Int) := by omega
  obtain ⟨y, hy, hys⟩ := Option.map_eq_some_iff.1 info_u32
  simp [Instr.index, run_underlying h, asIntOf, hn, part, isAgg, run_underlying Tryd.underlying72, sizeOf, typeInfo, hy, hys, hv, hi]

theorem Sns.alloc {w : World} {v : Value} {ns : List Nat} (h : Sns w v ns) (o : Obj) : Sns (w.alloc o) v ns := by
  obtain ⟨b, c, rfl, hc, ha⟩ := h
  exact ⟨b, c, rfl, hc, fun j hj => (World.cell?_alloc_lt w o _ (World.block_lt_of_cell? w _ (ha j hj))).trans (ha j hj)⟩
theorem chE1 (e f : Nat) (he : e < 4294967296) (hf : f < 4294967296 := by assumption) : bits .and .u32 (e : Int) (f : Int) = ((e &&& f : Nat) : Int) := u32_and_nat e f he hf
theorem chE2 (e : Nat) (he : e < 4294967296) : bits .xor .u32 IntKind.u32.max (e : Int) = ((4294967295 - e : Nat) : Int) := by
  have h := u32_xor_nat 4294967295 e (by decide) he
  have h2 : 4294967295 ^^^ e = 4294967295 - e := by
    apply Nat.eq_of_testBit_eq
    intro i
    rw [Nat.testBit_xor, show (4294967295 : Nat) = 2 ^ 32 - 1 from rfl, Nat.testBit_two_pow_sub_one, show 2 ^ 32 - 1 - e = 2 ^ 32 - (e + 1) by omega, Nat.testBit_two_pow_sub_succ (by omega)]
    by_cases hi : i < 32
    · simp [hi]
    · have : e < 2 ^ i := Nat.lt_of_lt_of_le he (by have : 2 ^ 32 ≤ 2 ^ i := Nat.pow_le_pow_right (by decide) (by omega); omega)
      simp [hi, Nat.testBit_lt_two_pow this]
  rw [← h2]
  exact h
theorem chE3 (e g : Nat) (he : e < 4294967296) (hg : g < 4294967296) : bits .and .u32 ((4294967295 - e : Nat) : Int) (g : Int) = (((4294967295 - e) &&& g : Nat) : Int) := u32_and_nat _ g (by omega) hg
/-- Two states, of which k words are added. -/
def mixL (s t : St) (k : Nat) : List Nat := (List.range 8).map fun j => if j < k then addN (s.list.getD j 0) (t.list.getD j 0) else s.list.getD j 0
theorem mixL_length (s t : St) (k : Nat) : (mixL s t k).length = 8 := by simp [mixL]
theorem mixL_get (s t : St) (k : Nat) (h : k < 8) : (mixL s t k).getD k 0 = s.list.getD k 0 := by
  rw [List.getD_eq_getElem?_getD, mixL]
  simp [h]
theorem mixL_set (s t : St) (k : Nat) (h : k < 8) : (mixL s t k).set k (addN (s.list.getD k 0) (t.list.getD k 0)) = mixL s t (k + 1) := by
  apply List.ext_getElem?
  intro j
  rw [List.getElem?_set]
  by_cases hj : j < 8
  · by_cases e : k = j
    · subst e; simp [mixL, hj]
    · have e2 : (j < k) = (j < k + 1) := by simp; omega
      simp [mixL, e, hj, e2]
  · rw [List.getElem?_eq_none (l := mixL s t (k + 1)) (by rw [mixL_length]; omega), List.getElem?_eq_none (l := mixL s t k) (by rw [mixL_length]; omega), if_neg (by omega)]
theorem one8 (a b c d e f g h : Int) : (#[.int .u32 a, .int .u32 b, .int .u32 c, .int .u32 d, .int .u32 e, .int .u32 f, .int .u32 g, .int .u32 h] : Array Value).all (·.oneCell') = true := by
  apply all_oneCell_toArray (cs := [.int .u32 a, .int .u32 b, .int .u32 c, .int .u32 d, .int .u32 e, .int .u32 f, .int .u32 g, .int .u32 h])
  intro v hv
  simp only [List.mem_cons, List.not_mem_nil, or_false] at hv
  rcases hv with rfl | rfl | rfl | rfl | rfl | rfl | rfl | rfl <;> rfl
theorem info8 (a b c d e f g h : Int) : (Tryd.prog.info? 73).map (·.size) = some (#[.int .u32 a, .int .u32 b, .int .u32 c, .int .u32 d, .int .u32 e, .int .u32 f, .int .u32 g, .int .u32 h] : Array Value).size := info_w8
theorem store8 {ops : Array Oper} {rest : List Oper} {op : Oper} {ac : Act} {w : World} {Q : Exit → Act → World → Prop} (hgd : op.guard = none) (x y : Operand) (ho : op.op = .store 73 x y)
    (hh : ∃ (p : Nat) (a b c d e f g h : Int), ac.eval x = .pointer (some ⟨p, 0, none⟩) ∧ ac.eval y = .agg #[.int .u32 a, .int .u32 b, .int .u32 c, .int .u32 d, .int .u32 e, .int .u32 f, .int .u32 g, .int .u32 h] ∧ w.there p 0 8 ∧
      wpList Tryd.prog ops Q rest (ac.put op.dst undef) (w.setCells p 0 [.int .u32 a, .int .u32 b, .int .u32 c, .int .u32 d, .int .u32 e, .int .u32 f, .int .u32 g, .int .u32 h])) : wpList Tryd.prog ops Q (op :: rest) ac w := by
  obtain ⟨p, a, b, c, d, e, f, g, h, hx, hy, ht, hk⟩ := hh
  exact wpList_store_mid hgd 73 x y ho p 0 _ hx hy ht (info8 _ _ _ _ _ _ _ _) (one8 _ _ _ _ _ _ _ _) hk
theorem u_any (t a b c : Nat) : ((t : Int) + ((rots a [2, 13, 22] : Int) + ((((a &&& b) ^^^ (a &&& c)) ^^^ (b &&& c) : Nat) : Int))) % 4294967296 = ((addN t (uN a b c) : Nat) : Int) := by
  unfold uN addN; omega
theorem t_any (e f g h k w rr : Nat) (he : e < 4294967296) (hg : g < 4294967296) (hr : rots e [6, 11, 25] = rr) : IntKind.u32.wrap (IntKind.u32.wrap (IntKind.u32.wrap (IntKind.u32.wrap ((h : Int) + (rr : Int)) + bits BinOp.xor IntKind.u32 ((e &&& f : Nat) : Int) (bits BinOp.and IntKind.u32 (bits BinOp.xor IntKind.u32 (if IntKind.u32.signed = true then -1 else IntKind.u32.max) (e : Int)) (g : Int))) + (k : Int)) + (w : Int)) = ((tN e f g h k w : Nat) : Int) := by
  rw [show (if IntKind.u32.signed = true then (-1 : Int) else IntKind.u32.max) = IntKind.u32.max from rfl, chE2 e he, chE3 e g he hg, u32_xor_nat _ _ (and_lt he) (and_lt (by omega))]
  unfold tN
  rw [hr]
  generalize (e &&& f) ^^^ ((4294967295 - e) &&& g) = ch
  simp only [IntKind.wrap_u32]
  unfold addN
  omega
theorem mixL_done (s t : St) : mixL s t 8 = (s.add t).list := by
  cases s; cases t; rfl
theorem size8 (s : St) (a b c d e f g h : Int) : (#[.int .u32 a, .int .u32 b, .int .u32 c, .int .u32 d, .int .u32 e, .int .u32 f, .int .u32 g, .int .u32 h] : Array Value).size = s.row.size := by rw [St.row_size]; rfl
set_option maxRecDepth 10000 in
set_option maxHeartbeats 1200000 in
theorem pressed_any (s : St) (v : Value) (b : List UInt8) (w : World) (hs : Sl w v b) (hb : b.length = 64) (hok : s.ok) (hg : Gl w) :
    Calls Tryd.prog 50 #[.agg s.row, v] w fun e w' => e = .returned (.agg (pressN s b).row) ∧ Below w.heap.size w w' := by
  have hs' := hs
  obtain ⟨A, c, rfl, hc, ha⟩ := hs
  clear ha
  have hi := s.row_info
  have h1 := s.row_one
  have hz := s.row_size
  generalize hR : s.row = R at hi h1 hz
  have ER := Lib.hid hR
  clear hR
  have hB0 := (Blk.new w 73 R).alloc (.cells (rowU (List.replicate 8 0)) 73)
  have hB1 := Blk.new (w.alloc (.cells R 73)) 73 (rowU (List.replicate 8 0))
  have hB2 := Blk.new ((w.alloc (.cells R 73)).alloc (.cells (rowU (List.replicate 8 0)) 73)) 73 (rowU (List.replicate 8 0))
  rw [show (w.alloc (.cells R 73)).heap.size = w.heap.size + 1 by simp] at hB1
  rw [show ((w.alloc (.cells R 73)).alloc (.cells (rowU (List.replicate 8 0)) 73)).heap.size = w.heap.size + 1 + 1 by simp] at hB2
  have hB0' := hB0.alloc (.cells (rowU (List.replicate 8 0)) 73)
  have hB1' := hB1.alloc (.cells (rowU (List.replicate 8 0)) 73)
  have hbw : Below w.heap.size w (((w.alloc (.cells R 73)).alloc (.cells (rowU (List.replicate 8 0)) 73)).alloc (.cells (rowU (List.replicate 8 0)) 73)) := (((Below.refl _ _).alloc (Nat.le_refl _) _).alloc (by simp) _).alloc (by simp; omega) _
  have hZ : (rowU (List.replicate 8 0)).size = 8 := rfl
  have hth : (((w.alloc (.cells R 73)).alloc (.cells (rowU (List.replicate 8 0)) 73)).alloc (.cells (rowU (List.replicate 8 0)) 73)).there (w.heap.size + 1 + 1) 0 R.size := by rw [hz]; exact hB2.there
  have HB := Lib.hid hb
  clear hb
  go_enter Tryd.func50, Tryd.ntmps50
  go_wp2_with (first | (refine wpList_load_row rfl 73 _ rfl w.heap.size rfl 73 R (0, 0) _ hB0 Tryd.underlying73 rfl hi ?_) | (refine wpList_store_mid rfl 73 _ _ rfl (w.heap.size + 1 + 1) 0 R rfl rfl hth hi h1 ?_))
  have hE := hB2.setRow (ds := R) (by rw [hz, hZ])
  have hgr := grown_setCells (w.heap.size + 1 + 1) R.toList 0 (((w.alloc (.cells R 73)).alloc (.cells (rowU (List.replicate 8 0)) 73)).alloc (.cells (rowU (List.replicate 8 0)) 73))
  have hE0 := hB0'.grown hgr (by simp; omega)
  have hE1 := hB1'.grown hgr (by simp)
  have hbE := Below.only hbw hgr (by omega) hbw.size
  change Calls _ _ _ ((((w.alloc (.cells R 73)).alloc (.cells (rowU (List.replicate 8 0)) 73)).alloc (.cells (rowU (List.replicate 8 0)) 73)).setCells (w.heap.size + 1 + 1) 0 R.toList) _
  generalize (((w.alloc (.cells R 73)).alloc (.cells (rowU (List.replicate 8 0)) 73)).alloc (.cells (rowU (List.replicate 8 0)) 73)).setCells (w.heap.size + 1 + 1) 0 R.toList = W at hE hE0 hE1 hbE ⊢
  clear hgr hB0 hB1 hB2 hB0' hB1' hth hbw
  generalize hZZ : rowU (List.replicate 8 0) = Z at hE1 hZ
  clear hZZ
  refine (stretched_any _ b W (hs'.below hbE) HB.out).mono ?_
  rintro e w1 ⟨rfl, hb1⟩
  have hF := hE.below hb1 hE.lt
  have hF0 := hE0.below hb1 hE0.lt
  have hF1 := hE1.below hb1 hE1.lt
  have hbF := hbE.trans (hb1.mono hbE.size)
  clear hE hE0 hE1 hbE hb1 hs'
  have hwl : (sched (wordsN b) 48).length = 64 := sched_length _ (wordsN_length b) 48
  have hwk := sched_ok _ (wordsN_ok b) 48
  generalize hWS : sched (wordsN b) 48 = ws at hwl hwk ⊢
  have EP := Lib.hid (show pressN s b = s.add (rounds ws s 64) by rw [← hWS]; rfl)
  clear hWS HB
  have HT := Lib.hid (fun i (h : i < 64) => rowU_getD (l := ws) (i := i) (by rw [hwl]; exact h))
  generalize rowU ws = T at HT ⊢
  rw [← ER.out] at hF
  go_wp2
  go_loopw [23] (fun z wr => ∃ k : Nat, k ≤ 64 ∧ z = .int .i64 (k : Int) ∧ Blk wr w.heap.size 73 R ∧ Blk wr (w.heap.size + 1) 73 Z ∧ Blk wr (w.heap.size + 1 + 1) 73 (rounds ws s k).row ∧ Below w.heap.size w wr) (fun z _ => 64 - (intOf z).toNat)
  case atStart => exact ⟨0, Nat.zero_le _, rfl, hF0, hF1, hF, hbF⟩
  case round =>
    clear hF hF0 hF1 hbF
    obtain ⟨k, hk, rfl, hF0, hF1, hF, hbF⟩ := hrel
    by_cases hlt : k < 64
    · have hTk := fun w' => index_row 84 64 T k _ w' Tryd.underlying84 hlt (HT.out k hlt)
      have hRo := rounds_ok (w := ws) hok k
      have hwx := getD_lt hwk k
      have HR := Lib.hid (show rounds ws s (k + 1) = roundN (kAt k) (ws.getD k 0) (rounds ws s k) from rfl)
      have hKK := Lib.hid (fun w' (h : Below w.heap.size w w') => (hg.below h).k k hlt)
      have hkk := kAt_lt k
      generalize rounds ws s k = q at hF hRo HR
      generalize ws.getD k 0 = x at hTk hwx HR
      generalize kAt k = kk at hKK hkk HR
      obtain ⟨qa, qb, qc, qd, qe, qf, qg, qh⟩ := q
      obtain ⟨ha, hb, hc, hd, he, hf, hg', hh⟩ := hRo
      replace HR := Lib.hid (show rounds ws s (k + 1) = ⟨addN (tN qe qf qg qh kk x) (uN qa qb qc), qa, qb, qc, addN qd (tN qe qf qg qh kk x), qe, qf, qg⟩ from HR.out)
      have c0 : wr.cell? ⟨w.heap.size + 1 + 1, 0, none⟩ = some (.int .u32 (qa : Int)) := hF.cell 0
      have c1 : wr.cell? ⟨w.heap.size + 1 + 1, 1, none⟩ = some (.int .u32 (qb : Int)) := hF.cell 1
      have c2 : wr.cell? ⟨w.heap.size + 1 + 1, 2, none⟩ = some (.int .u32 (qc : Int)) := hF.cell 2
      have c3 : wr.cell? ⟨w.heap.size + 1 + 1, 3, none⟩ = some (.int .u32 (qd : Int)) := hF.cell 3
      go_wp2
      go_quiet (fail)
      have d4 : (wr.drewN nq).cell? ⟨w.heap.size + 1 + 1, 4, none⟩ = some (.int .u32 (qe : Int)) := hF.cell 4
      have d5 : (wr.drewN nq).cell? ⟨w.heap.size + 1 + 1, 5, none⟩ = some (.int .u32 (qf : Int)) := hF.cell 5
      have d6 : (wr.drewN nq).cell? ⟨w.heap.size + 1 + 1, 6, none⟩ = some (.int .u32 (qg : Int)) := hF.cell 6
      have d7 : (wr.drewN nq).cell? ⟨w.heap.size + 1 + 1, 7, none⟩ = some (.int .u32 (qh : Int)) := hF.cell 7
      have gF := hF.drewN nq
      have gF0 := hF0.drewN nq
      have gF1 := hF1.drewN nq
      have gbF := below_drewN hbF nq
      clear c0 c1 c2 c3 hF hF0 hF1 hbF hTk
      generalize wr.drewN nq = wr1 at d4 d5 d6 d7 gF gF0 gF1 gbF ⊢
      go_wp2
      go_quiet (fail)
      have kF := (gF.drewN nq).drew
      have kF0 := (gF0.drewN nq).drew
      have kF1 := (gF1.drewN nq).drew
      have kbF := (below_drewN gbF nq).drew
      clear d4 d5 d6 d7 gF gF0 gF1 gbF
      go_upto_region 7 with (fail)
      go_cut [16, 23] from 23 to 93 (fun y z wc => y = .int .u32 ((tN qe qf qg qh kk x : Nat) : Int) ∧ z = .int .i64 (k : Int) ∧ Blk wc w.heap.size 73 R ∧ Blk wc (w.heap.size + 1) 73 Z ∧ Blk wc (w.heap.size + 1 + 1) 73 (St.mk qa qb qc qd qe qf qg qh).row ∧ Below w.heap.size w wc)
      case rest =>
        obtain ⟨rfl, rfl, mF0, mF1, mF, mbF⟩ := hcut
        generalize tN qe qf qg qh kk x = tt at HR ⊢
        go_wp2_with fail
        refine (rotated_any qa wc).mono ?_
        rintro e w5 ⟨rfl, rfl⟩
        go_wp2_with fail
        refine (rot_new qa [2, 13, 22] #[.int .i64 2, .int .i64 13, .int .i64 22] 3 wc ha rfl rfl (by decide) (by decide)).mono ?_
        rintro e w6 ⟨rfl, rfl⟩
        have nF := (mF.alloc (.cells #[.int .u32 (qa : Int)] 72)).alloc (.cells #[.int .i64 2, .int .i64 13, .int .i64 22] 3)
        have nF0 := (mF0.alloc (.cells #[.int .u32 (qa : Int)] 72)).alloc (.cells #[.int .i64 2, .int .i64 13, .int .i64 22] 3)
        have nF1 := (mF1.alloc (.cells #[.int .u32 (qa : Int)] 72)).alloc (.cells #[.int .i64 2, .int .i64 13, .int .i64 22] 3)
        have nbF := below_two mbF mbF.size (.cells #[.int .u32 (qa : Int)] 72) (.cells #[.int .i64 2, .int .i64 13, .int .i64 22] 3)
        clear mF mF0 mF1 mbF
        generalize (wc.alloc (.cells #[.int .u32 (qa : Int)] 72)).alloc (.cells #[.int .i64 2, .int .i64 13, .int .i64 22] 3) = W3 at nF nF0 nF1 nbF ⊢
        have f1 := chE1 qa qb ha
        have f2 := chE1 qa qc ha
        have f3 := u32_xor_nat (qa &&& qb) (qa &&& qc) (and_lt ha) (and_lt ha)
        have f4 := chE1 qb qc hb
        have f5 := u32_xor_nat ((qa &&& qb) ^^^ (qa &&& qc)) (qb &&& qc) (xor_lt (and_lt ha) (and_lt ha)) (and_lt hb)
        have EU := Lib.hid (u_any tt qa qb qc)
        have ED := Lib.hid (addN_any qd tt)
        generalize uN qa qb qc = uu at EU HR
        generalize rots qa [2, 13, 22] = r2 at EU ⊢
        generalize addN tt uu = ta at EU HR
        generalize addN qd tt = td at ED HR
        have hth : W3.there (w.heap.size + 1 + 1) 0 8 := nF.there
        have hnew : Blk (W3.setCells (w.heap.size + 1 + 1) 0 [.int .u32 (ta : Int), .int .u32 (qa : Int), .int .u32 (qb : Int), .int .u32 (qc : Int), .int .u32 (td : Int), .int .u32 (qe : Int), .int .u32 (qf : Int), .int .u32 (qg : Int)]) (w.heap.size + 1 + 1) 73 #[.int .u32 (ta : Int), .int .u32 (qa : Int), .int .u32 (qb : Int), .int .u32 (qc : Int), .int .u32 (td : Int), .int .u32 (qe : Int), .int .u32 (qf : Int), .int .u32 (qg : Int)] := nF.setRow (ds := #[.int .u32 (ta : Int), .int .u32 (qa : Int), .int .u32 (qb : Int), .int .u32 (qc : Int), .int .u32 (td : Int), .int .u32 (qe : Int), .int .u32 (qf : Int), .int .u32 (qg : Int)]) (size8 _ _ _ _ _ _ _ _ _)
        have hgr := grown_setCells (w.heap.size + 1 + 1) [.int .u32 (ta : Int), .int .u32 (qa : Int), .int .u32 (qb : Int), .int .u32 (qc : Int), .int .u32 (td : Int), .int .u32 (qe : Int), .int .u32 (qf : Int), .int .u32 (qg : Int)] 0 W3
        have oF0 := nF0.grown hgr (by simp; omega)
        have oF1 := nF1.grown hgr (by simp)
        have obF := Below.only nbF hgr (by omega) nbF.size
        have HN := Lib.hid hnew
        have H0 := Lib.hid oF0
        have H1 := Lib.hid oF1
        have HX := Lib.hid obF
        clear hgr hnew oF0 oF1 obF
        go_wp2_with (refine store8 rfl (.tmp 5) (.tmp 92) rfl ?_; refine ⟨w.heap.size + 1 + 1, _, _, _, _, _, _, _, _, rfl, rfl, hth, ?_⟩; rw [EU.out, ED.out]; generalize W3.setCells (w.heap.size + 1 + 1) 0 [.int .u32 (ta : Int), .int .u32 (qa : Int), .int .u32 (qb : Int), .int .u32 (qc : Int), .int .u32 (td : Int), .int .u32 (qe : Int), .int .u32 (qf : Int), .int .u32 (qg : Int)] = W4 at HN H0 H1 HX ⊢)
        clear f1 f2 f3 f4 f5 hth nF nF0 nF1 nbF
        go_roundw
        case rel => exact ⟨k + 1, by omega, by go_num, H0.out, H1.out, by rw [HR.out]; exact HN.out, HX.out⟩
        case measure => simp [intOf]; omega
      refine held_begin (by as_aux_lemma => kernel_rfl) ?_
      generalize (wr1.drewN nq).drew = W0 at kF kF0 kF1 kbF ⊢
      have hck := hKK.out W0 kbF
      have e1 := chE1 qe qf he
      refine' wpAnyH_take (i := 0) (oi := ⟨some 43, _, _, _, _, _⟩) (v := _) rfl (by as_aux_lemma => kernel_rfl) (by as_aux_lemma => kernel_rfl) (by as_aux_lemma => kernel_rfl) (fun _ _ _ h => h) (Or.inl ⟨by rfl, ?y1⟩) (Keeps.refl _) ?r1
      case y1 => (intro w' hSw; go_simp; try rfl)
      try simp only [Act.put, List.setIfInBounds_toArray, List.set_cons_zero, List.set_cons_succ]
      refine' wpAnyH_take (i := 1) (oi := ⟨some 44, _, _, _, _, _⟩) (v := _) rfl (by as_aux_lemma => kernel_rfl) (by as_aux_lemma => kernel_rfl) (by as_aux_lemma => kernel_rfl) (fun _ _ _ h => h) (Or.inl ⟨by rfl, ?y2⟩) (Keeps.refl _) ?r2
      case y2 => (intro w' hSw; go_simp; try rfl)
      try simp only [Act.put, List.setIfInBounds_toArray, List.set_cons_zero, List.set_cons_succ]
      refine' wpAnyH_take (i := 6) (oi := ⟨some 49, _, _, _, _, _⟩) (v := _) rfl (by as_aux_lemma => kernel_rfl) (by as_aux_lemma => kernel_rfl) (by as_aux_lemma => kernel_rfl) (fun _ _ _ h => h) (Or.inl ⟨by rfl, ?y3⟩) (Keeps.refl _) ?r3
      case y3 => (intro w' hSw; go_simp; try rfl)
      try simp only [Act.put, List.setIfInBounds_toArray, List.set_cons_zero, List.set_cons_succ]
      refine' wpAnyH_take (i := 7) (oi := ⟨some 50, _, _, _, _, _⟩) (v := _) rfl (by as_aux_lemma => kernel_rfl) (by as_aux_lemma => kernel_rfl) (by as_aux_lemma => kernel_rfl) (fun _ _ _ h => h) (Or.inl ⟨by rfl, ?y4⟩) (Keeps.refl _) ?r4
      case y4 => (intro w' hSw; go_simp; try rfl)
      try simp only [Act.put, List.setIfInBounds_toArray, List.set_cons_zero, List.set_cons_succ]
      refine' wpAnyH_take (i := 8) (oi := ⟨some 51, _, _, _, _, _⟩) (v := _) rfl (by as_aux_lemma => kernel_rfl) (by as_aux_lemma => kernel_rfl) (by as_aux_lemma => kernel_rfl) (fun _ _ _ h => h) (Or.inl ⟨by rfl, ?y5⟩) (Keeps.refl _) ?r5
      case y5 => (intro w' hSw; go_simp; try rfl)
      try simp only [Act.put, List.setIfInBounds_toArray, List.set_cons_zero, List.set_cons_succ]
      refine' wpAnyH_take (i := 9) (oi := ⟨some 52, _, _, _, _, _⟩) (v := _) rfl (by as_aux_lemma => kernel_rfl) (by as_aux_lemma => kernel_rfl) (by as_aux_lemma => kernel_rfl) (fun _ _ _ h => h) (Or.inl ⟨by rfl, ?y6⟩) (Keeps.refl _) ?r6
      case y6 => (intro w' hSw; go_simp; try rfl)
      try simp only [Act.put, List.setIfInBounds_toArray, List.set_cons_zero, List.set_cons_succ]
      refine' wpAnyH_take (i := 10) (oi := ⟨some 53, _, _, _, _, _⟩) (v := _) rfl (by as_aux_lemma => kernel_rfl) (by as_aux_lemma => kernel_rfl) (by as_aux_lemma => kernel_rfl) (fun _ _ _ h => h) (Or.inl ⟨by rfl, ?y7⟩) (Keeps.refl _) ?r7
      case y7 => (intro w' hSw; go_simp; try rfl)
      try simp only [Act.put, List.setIfInBounds_toArray, List.set_cons_zero, List.set_cons_succ]
      refine' wpAnyH_take (i := 11) (oi := ⟨some 54, _, _, _, _, _⟩) (v := _) rfl (by as_aux_lemma => kernel_rfl) (by as_aux_lemma => kernel_rfl) (by as_aux_lemma => kernel_rfl) (fun _ _ _ h => h) (Or.inl ⟨by rfl, ?y8⟩) (Keeps.refl _) ?r8
      case y8 => (intro w' hSw; go_simp; try rfl)
      try simp only [Act.put, List.setIfInBounds_toArray, List.set_cons_zero, List.set_cons_succ]
      refine' wpAnyH_take (i := 12) (oi := ⟨some 55, _, _, _, _, _⟩) (v := _) rfl (by as_aux_lemma => kernel_rfl) (by as_aux_lemma => kernel_rfl) (by as_aux_lemma => kernel_rfl) (fun _ _ _ h => h) (Or.inl ⟨by rfl, ?y9⟩) (Keeps.refl _) ?r9
      case y9 => (intro w' hSw; go_simp; try rfl)
      try simp only [Act.put, List.setIfInBounds_toArray, List.set_cons_zero, List.set_cons_succ]
      refine' wpAnyH_take (i := 13) (oi := ⟨some 56, _, _, _, _, _⟩) (v := _) rfl (by as_aux_lemma => kernel_rfl) (by as_aux_lemma => kernel_rfl) (by as_aux_lemma => kernel_rfl) (fun _ _ _ h => h) (Or.inl ⟨by rfl, ?y10⟩) (Keeps.refl _) ?r10
      case y10 => (intro w' hSw; go_simp; try rfl)
      try simp only [Act.put, List.setIfInBounds_toArray, List.set_cons_zero, List.set_cons_succ]
      refine' wpAnyH_take (i := 15) (oi := ⟨some 58, _, _, _, _, _⟩) (v := _) rfl (by as_aux_lemma => kernel_rfl) (by as_aux_lemma => kernel_rfl) (by as_aux_lemma => kernel_rfl) (fun _ _ _ h => h) (Or.inl ⟨by rfl, ?y11⟩) (Keeps.refl _) ?r11
      case y11 => (intro w' hSw; go_simp; try rfl)
      try simp only [Act.put, List.setIfInBounds_toArray, List.set_cons_zero, List.set_cons_succ]
      refine' wpAnyH_take (i := 16) (oi := ⟨some 59, _, _, _, _, _⟩) (v := _) rfl (by as_aux_lemma => kernel_rfl) (by as_aux_lemma => kernel_rfl) (by as_aux_lemma => kernel_rfl) (fun _ _ _ h => h) (Or.inl ⟨by rfl, ?y12⟩) (Keeps.refl _) ?r12
      case y12 => (intro w' hSw; go_simp; try rfl)
      try simp only [Act.put, List.setIfInBounds_toArray, List.set_cons_zero, List.set_cons_succ]
      refine' wpAnyH_take (i := 17) (oi := ⟨some 60, _, _, _, _, _⟩) (v := _) rfl (by as_aux_lemma => kernel_rfl) (by as_aux_lemma => kernel_rfl) (by as_aux_lemma => kernel_rfl) (fun _ _ _ h => h) (Or.inl ⟨by rfl, ?y13⟩) (Keeps.refl _) ?r13
      case y13 => (intro w' hSw; have hq := hSw _ _ hck; go_simp; try rfl)
      try simp only [Act.put, List.setIfInBounds_toArray, List.set_cons_zero, List.set_cons_succ]
      refine' wpAnyH_take (i := 19) (oi := ⟨some 62, _, _, _, _, _⟩) (v := _) rfl (by as_aux_lemma => kernel_rfl) (by as_aux_lemma => kernel_rfl) (by as_aux_lemma => kernel_rfl) (fun _ _ _ h => h) (Or.inl ⟨by rfl, ?y14⟩) (Keeps.refl _) ?r14
      case y14 => (intro w' hSw; go_simp; try rfl)
      try simp only [Act.put, List.setIfInBounds_toArray, List.set_cons_zero, List.set_cons_succ]
      clear e1
      refine wpAnyH_ready (by as_aux_lemma => kernel_rfl) (by simp) (rs := [2, 3]) (AllReadyH.cons (i := 2) rfl (fun K hK => ?_) (AllReadyH.cons (i := 3) rfl (fun K hK => ?_) AllReadyH.nil))
      · go_simp
        refine (rotated_any qe _).mono ?_
        rintro e w3 ⟨rfl, rfl⟩
        have hkA : Keeps W0 (W0.alloc (.cells #[.int .u32 (qe : Int)] 72)) := Keeps.of_below ((Below.refl _ _).alloc (Nat.le_refl _) _)
        refine hK.out _ _ hkA (fun _ => ?_)
        clear hK K
        refine held_next hkA ?_
        clear hkA
        refine held_one (i := 3) (by as_aux_lemma => kernel_rfl) rfl (fun K hK => ?_)
        go_simp
        have hkA : Keeps (W0.alloc (.cells #[.int .u32 (qe : Int)] 72)) ((W0.alloc (.cells #[.int .u32 (qe : Int)] 72)).alloc (.cells #[.int .i64 6, .int .i64 11, .int .i64 25] 3)) := Keeps.of_below ((Below.refl _ _).alloc (Nat.le_refl _) _)
        refine hK.out _ _ hkA (fun _ => ?_)
        clear hK K
        refine held_next hkA ?_
        clear hkA
        have hp : ((W0.alloc (.cells #[.int .u32 (qe : Int)] 72)).alloc (.cells #[.int .i64 6, .int .i64 11, .int .i64 25] 3)).cell? ⟨W0.heap.size, 0, none⟩ = some (.int .u32 (qe : Int)) := ((Blk.new W0 _ _).alloc _).cell 0
        have hns := Sns.new (W0.alloc (.cells #[.int .u32 (qe : Int)] 72)) 3 #[.int .i64 6, .int .i64 11, .int .i64 25] [6, 11, 25] 3 rfl rfl
        rw [show (W0.alloc (.cells #[.int .u32 (qe : Int)] 72)).heap.size = W0.heap.size + 1 by simp] at hns
        have mF := (kF.alloc (.cells #[.int .u32 (qe : Int)] 72)).alloc (.cells #[.int .i64 6, .int .i64 11, .int .i64 25] 3)
        have mF0 := (kF0.alloc (.cells #[.int .u32 (qe : Int)] 72)).alloc (.cells #[.int .i64 6, .int .i64 11, .int .i64 25] 3)
        have mF1 := (kF1.alloc (.cells #[.int .u32 (qe : Int)] 72)).alloc (.cells #[.int .i64 6, .int .i64 11, .int .i64 25] 3)
        have mbF := below_two kbF kbF.size (.cells #[.int .u32 (qe : Int)] 72) (.cells #[.int .i64 6, .int .i64 11, .int .i64 25] 3)
        clear kF kF0 kF1 kbF hck
        generalize (W0.alloc (.cells #[.int .u32 (qe : Int)] 72)).alloc (.cells #[.int .i64 6, .int .i64 11, .int .i64 25] 3) = W2 at hp hns mF mF0 mF1 mbF ⊢
        generalize W0.heap.size + 1 = gq at hns ⊢
        generalize W0.heap.size = gp at hp ⊢
        refine held_one (i := 4) (by as_aux_lemma => kernel_rfl) rfl (fun K hK => ?_)
        go_simp
        refine (rotc_any qe [6, 11, 25] _ _ _ he hp hns (by decide) (by decide)).mono ?_
        rintro e w4 ⟨rfl, rfl⟩
        refine hK.out _ _ (Keeps.refl _) (fun _ => ?_)
        clear hK K
        generalize hrr : rots qe [6, 11, 25] = rr
        have ERR := Lib.hid hrr
        clear hrr
        refine' wpAnyH_take (i := 5) (oi := ⟨some 48, _, _, _, _, _⟩) (v := _) rfl (by as_aux_lemma => kernel_rfl) (by as_aux_lemma => kernel_rfl) (by as_aux_lemma => kernel_rfl) (fun _ _ _ h => h) (Or.inl ⟨by rfl, ?y15⟩) (Keeps.refl _) ?r15
        case y15 => (intro w' hSw; go_simp; try rfl)
        try simp only [Act.put, List.setIfInBounds_toArray, List.set_cons_zero, List.set_cons_succ]
        refine' wpAnyH_take (i := 14) (oi := ⟨some 57, _, _, _, _, _⟩) (v := _) rfl (by as_aux_lemma => kernel_rfl) (by as_aux_lemma => kernel_rfl) (by as_aux_lemma => kernel_rfl) (fun _ _ _ h => h) (Or.inl ⟨by rfl, ?y16⟩) (Keeps.refl _) ?r16
        case y16 => (intro w' hSw; go_simp; try rfl)
        try simp only [Act.put, List.setIfInBounds_toArray, List.set_cons_zero, List.set_cons_succ]
        refine' wpAnyH_take (i := 18) (oi := ⟨some 61, _, _, _, _, _⟩) (v := _) rfl (by as_aux_lemma => kernel_rfl) (by as_aux_lemma => kernel_rfl) (by as_aux_lemma => kernel_rfl) (fun _ _ _ h => h) (Or.inl ⟨by rfl, ?y17⟩) (Keeps.refl _) ?r17
        case y17 => (intro w' hSw; go_simp; try rfl)
        try simp only [Act.put, List.setIfInBounds_toArray, List.set_cons_zero, List.set_cons_succ]
        refine' wpAnyH_take (i := 20) (oi := ⟨some 63, _, _, _, _, _⟩) (v := _) rfl (by as_aux_lemma => kernel_rfl) (by as_aux_lemma => kernel_rfl) (by as_aux_lemma => kernel_rfl) (fun _ _ _ h => h) (Or.inl ⟨by rfl, ?y18⟩) (Keeps.refl _) ?r18
        case y18 => (intro w' hSw; go_simp; try rfl)
        try simp only [Act.put, List.setIfInBounds_toArray, List.set_cons_zero, List.set_cons_succ]
        refine' wpAnyH_take (i := 21) (oi := ⟨some 16, _, _, _, _, _⟩) (v := _) rfl (by as_aux_lemma => kernel_rfl) (by as_aux_lemma => kernel_rfl) (by as_aux_lemma => kernel_rfl) (fun _ _ _ h => h) (Or.inl ⟨by rfl, ?y19⟩) (Keeps.refl _) ?r19
        case y19 => (intro w' hSw; go_simp; try rfl)
        try simp only [Act.put, List.setIfInBounds_toArray, List.set_cons_zero, List.set_cons_succ]
        refine wpAnyH_done (by as_aux_lemma => kernel_rfl) ?_ _
        rw [t_any qe qf qg qh kk x rr he hg' ERR.out]
        clear ERR
        go_wp2_with fail
        go_meet
        exact ⟨rfl, rfl, mF0, mF1, mF, mbF⟩
      · go_simp
        have hkA : Keeps W0 (W0.alloc (.cells #[.int .i64 6, .int .i64 11, .int .i64 25] 3)) := Keeps.of_below ((Below.refl _ _).alloc (Nat.le_refl _) _)
        refine hK.out _ _ hkA (fun _ => ?_)
        clear hK K
        refine held_next hkA ?_
        clear hkA
        refine held_one (i := 2) (by as_aux_lemma => kernel_rfl) rfl (fun K hK => ?_)
        go_simp
        refine (rotated_any qe _).mono ?_
        rintro e w3 ⟨rfl, rfl⟩
        have hkA : Keeps (W0.alloc (.cells #[.int .i64 6, .int .i64 11, .int .i64 25] 3)) ((W0.alloc (.cells #[.int .i64 6, .int .i64 11, .int .i64 25] 3)).alloc (.cells #[.int .u32 (qe : Int)] 72)) := Keeps.of_below ((Below.refl _ _).alloc (Nat.le_refl _) _)
        refine hK.out _ _ hkA (fun _ => ?_)
        clear hK K
        refine held_next hkA ?_
        clear hkA
        have hp := (Blk.new (W0.alloc (.cells #[.int .i64 6, .int .i64 11, .int .i64 25] 3)) 72 #[.int .u32 (qe : Int)]).cell 0
        rw [show (W0.alloc (.cells #[.int .i64 6, .int .i64 11, .int .i64 25] 3)).heap.size = W0.heap.size + 1 by simp] at hp
        have hns : Sns ((W0.alloc (.cells #[.int .i64 6, .int .i64 11, .int .i64 25] 3)).alloc (.cells #[.int .u32 (qe : Int)] 72)) (.slice (some ⟨W0.heap.size, 0, none⟩) 3 3) [6, 11, 25] := (Sns.new W0 3 #[.int .i64 6, .int .i64 11, .int .i64 25] [6, 11, 25] 3 rfl rfl).alloc _
        have mF := (kF.alloc (.cells #[.int .i64 6, .int .i64 11, .int .i64 25] 3)).alloc (.cells #[.int .u32 (qe : Int)] 72)
        have mF0 := (kF0.alloc (.cells #[.int .i64 6, .int .i64 11, .int .i64 25] 3)).alloc (.cells #[.int .u32 (qe : Int)] 72)
        have mF1 := (kF1.alloc (.cells #[.int .i64 6, .int .i64 11, .int .i64 25] 3)).alloc (.cells #[.int .u32 (qe : Int)] 72)
        have mbF := below_two kbF kbF.size (.cells #[.int .i64 6, .int .i64 11, .int .i64 25] 3) (.cells #[.int .u32 (qe : Int)] 72)
        clear kF kF0 kF1 kbF hck
        rw [show (W0.alloc (.cells #[.int .i64 6, .int .i64 11, .int .i64 25] 3)).heap.size = W0.heap.size + 1 by simp]
        generalize (W0.alloc (.cells #[.int .i64 6, .int .i64 11, .int .i64 25] 3)).alloc (.cells #[.int .u32 (qe : Int)] 72) = W2 at hp hns mF mF0 mF1 mbF ⊢
        generalize W0.heap.size + 1 = gp at hp ⊢
        generalize W0.heap.size = gq at hns ⊢
        refine held_one (i := 4) (by as_aux_lemma => kernel_rfl) rfl (fun K hK => ?_)
        go_simp
        refine (rotc_any qe [6, 11, 25] _ _ _ he hp hns (by decide) (by decide)).mono ?_
        rintro e w4 ⟨rfl, rfl⟩
        refine hK.out _ _ (Keeps.refl _) (fun _ => ?_)
        clear hK K
        generalize hrr : rots qe [6, 11, 25] = rr
        have ERR := Lib.hid hrr
        clear hrr
        refine' wpAnyH_take (i := 5) (oi := ⟨some 48, _, _, _, _, _⟩) (v := _) rfl (by as_aux_lemma => kernel_rfl) (by as_aux_lemma => kernel_rfl) (by as_aux_lemma => kernel_rfl) (fun _ _ _ h => h) (Or.inl ⟨by rfl, ?y20⟩) (Keeps.refl _) ?r20
        case y20 => (intro w' hSw; go_simp; try rfl)
        try simp only [Act.put, List.setIfInBounds_toArray, List.set_cons_zero, List.set_cons_succ]
        refine' wpAnyH_take (i := 14) (oi := ⟨some 57, _, _, _, _, _⟩) (v := _) rfl (by as_aux_lemma => kernel_rfl) (by as_aux_lemma => kernel_rfl) (by as_aux_lemma => kernel_rfl) (fun _ _ _ h => h) (Or.inl ⟨by rfl, ?y21⟩) (Keeps.refl _) ?r21
        case y21 => (intro w' hSw; go_simp; try rfl)
        try simp only [Act.put, List.setIfInBounds_toArray, List.set_cons_zero, List.set_cons_succ]
        refine' wpAnyH_take (i := 18) (oi := ⟨some 61, _, _, _, _, _⟩) (v := _) rfl (by as_aux_lemma => kernel_rfl) (by as_aux_lemma => kernel_rfl) (by as_aux_lemma => kernel_rfl) (fun _ _ _ h => h) (Or.inl ⟨by rfl, ?y22⟩) (Keeps.refl _) ?r22
        case y22 => (intro w' hSw; go_simp; try rfl)
        try simp only [Act.put, List.setIfInBounds_toArray, List.set_cons_zero, List.set_cons_succ]
        refine' wpAnyH_take (i := 20) (oi := ⟨some 63, _, _, _, _, _⟩) (v := _) rfl (by as_aux_lemma => kernel_rfl) (by as_aux_lemma => kernel_rfl) (by as_aux_lemma => kernel_rfl) (fun _ _ _ h => h) (Or.inl ⟨by rfl, ?y23⟩) (Keeps.refl _) ?r23
        case y23 => (intro w' hSw; go_simp; try rfl)
        try simp only [Act.put, List.setIfInBounds_toArray, List.set_cons_zero, List.set_cons_succ]
        refine' wpAnyH_take (i := 21) (oi := ⟨some 16, _, _, _, _, _⟩) (v := _) rfl (by as_aux_lemma => kernel_rfl) (by as_aux_lemma => kernel_rfl) (by as_aux_lemma => kernel_rfl) (fun _ _ _ h => h) (Or.inl ⟨by rfl, ?y24⟩) (Keeps.refl _) ?r24
        case y24 => (intro w' hSw; go_simp; try rfl)
        try simp only [Act.put, List.setIfInBounds_toArray, List.set_cons_zero, List.set_cons_succ]
        refine wpAnyH_done (by as_aux_lemma => kernel_rfl) ?_ _
        rw [t_any qe qf qg qh kk x rr he hg' ERR.out]
        clear ERR
        go_wp2_with fail
        go_meet
        exact ⟨rfl, rfl, mF0, mF1, mF, mbF⟩
    · obtain rfl : k = 64 := by omega
      rw [show ((64 : Nat) : Int) = 64 from rfl]
      clear HT
      have hok2 := rounds_ok (w := ws) hok 64
      generalize hq : rounds ws s 64 = q at hF hok2
      have EQ := Lib.hid (show pressN s b = s.add q by rw [EP.out, hq])
      clear hq EP
      have hqi := q.row_info
      have hqz := q.row_size
      generalize hQ : q.row = Q at hF hqi hqz
      have EQR := Lib.hid hQ
      clear hQ
      have hF0' : Blk wr w.heap.size 73 (rowU (mixL s q 0)) := by rw [show rowU (mixL s q 0) = s.row from rfl, ER.out]; exact hF0
      go_wp2_with (refine wpList_load_row rfl 73 _ rfl (w.heap.size + 1 + 1) rfl 73 Q (0, 0) _ hF Tryd.underlying73 rfl hqi ?_)
      go_loopw [95] (fun z wr => ∃ k : Nat, k ≤ 8 ∧ z = .int .i64 (k : Int) ∧ Blk wr w.heap.size 73 (rowU (mixL s q k)) ∧ Blk wr (w.heap.size + 1) 73 Z ∧ Below w.heap.size w wr) (fun z _ => 8 - (intOf z).toNat)
      case atStart => exact ⟨0, Nat.zero_le _, rfl, hF0', hF1, hbF⟩
      case round =>
        clear hF0 hF0' hF1 hbF hF
        obtain ⟨k, hk, rfl, hF0, hF1, hbF⟩ := hrel
        by_cases hlt : k < 8
        · have hQk := fun w' => index_row 73 8 Q k _ w' Tryd.underlying73 hlt (by rw [← EQR.out]; exact rowU_getD (l := q.list) hlt)
          have hck : wr.cell? ⟨w.heap.size, k, none⟩ = some (.int .u32 (s.list.getD k 0 : Int)) := by
            rw [hF0.cell, rowU_getD (by rw [mixL_length]; exact hlt), mixL_get s q k hlt]
          have hfr := hF0.frozen k
          have HM := Lib.hid (mixL_set s q k hlt)
          have HA := Lib.hid (addN_any (s.list.getD k 0) (q.list.getD k 0))
          generalize q.list.getD k 0 = y at hQk HM HA
          generalize s.list.getD k 0 = x at hck HM HA
          generalize addN x y = ss at HM HA
          go_wp2
          rw [HA.out]
          go_roundw
          case rel => exact ⟨k + 1, by omega, by go_num, by rw [← HM.out, ← rowU_set]; exact hF0.set_ _ _, hF1.far (by simp) _, hbF.setCell (by simp) _⟩
          case measure => simp [intOf]; omega
        · obtain rfl : k = 8 := by omega
          have hsa : rowU (mixL s q 8) = (s.add q).row := by unfold St.row; rw [mixL_done]
          rw [hsa] at hF0
          have hi2 := (s.add q).row_info
          have h12 := (s.add q).row_one
          have hz2 := (s.add q).row_size
          generalize hRR : (s.add q).row = RR at hF0 hi2 h12 hz2
          have ERR := Lib.hid hRR
          clear hRR hsa
          have hth : wr.there (w.heap.size + 1) 0 RR.size := by rw [hz2, ← hZ]; exact hF1.there
          go_wp2_with (first | (refine wpList_load_row rfl 73 _ rfl w.heap.size rfl 73 RR (0, 0) _ hF0 Tryd.underlying73 rfl hi2 ?_) | (refine wpList_store_mid rfl 73 _ _ rfl (w.heap.size + 1) 0 RR rfl rfl hth hi2 h12 ?_))
          have hE : Blk (wr.setCells (w.heap.size + 1) 0 RR.toList) (w.heap.size + 1) 73 RR := hF1.setRow (by rw [hz2, hZ])
          have hgE := grown_setCells (w.heap.size + 1) RR.toList 0 wr
          exact bodyPost_ret (v := .agg RR) (results_cell_row rfl _ _ (w.heap.size + 1) 73 RR (0, 0) _ rfl hE Tryd.underlying73 rfl hi2) rfl ⟨by rw [EQ.out, ERR.out], Below.only hbF hgE (by omega) hbF.size⟩
end Go.Proofs.YthlopecllhdmhaaDoor

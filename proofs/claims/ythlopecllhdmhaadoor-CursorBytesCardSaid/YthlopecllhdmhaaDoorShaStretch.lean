/-
  The walk of sha.stretched.
-/
import Derived.Test.YthlopecllhdmhaaDoorShaRot
namespace Go.Proofs.YthlopecllhdmhaaDoor
open Go.RowKit
set_option linter.unusedVariables false

/-- Words, as a row of cells. -/
def rowU (l : List Nat) : Array Value := (l.map uv).toArray
theorem rowU_size (l : List Nat) : (rowU l).size = l.length := by simp [rowU]
theorem rowU_get (l : List Nat) (i : Nat) : (rowU l)[i]? = (l[i]?).map uv := by simp [rowU]
theorem rowU_set (l : List Nat) (i x : Nat) : (rowU l).setIfInBounds i (.int .u32 (x : Int)) = rowU (l.set i x) := by
  apply Array.toList_inj.1
  simp [rowU, List.map_set, uv]
theorem rowU_one (l : List Nat) : (rowU l).all (·.oneCell') = true := by
  rw [Array.all_eq_true_iff_forall_mem]
  intro v hv
  simp only [rowU, List.mem_toArray, List.mem_map] at hv
  obtain ⟨n, _, rfl⟩ := hv
  rfl
theorem rowU_getD {l : List Nat} {i : Nat} (h : i < l.length) : (rowU l)[i]? = some (.int .u32 (l.getD i 0 : Int)) := by
  rw [rowU_get, List.getD_eq_getElem?_getD, List.getElem?_eq_getElem h]; rfl

theorem info_w64 : (Tryd.prog.info? 84).map (·.size) = some 64 := by kernel_rfl
theorem rowU_info64 (l : List Nat) (h : l.length = 64) : (Tryd.prog.info? 84).map (·.size) = some (rowU l).size := by rw [info_w64, rowU_size, h]

/-- A block's words, of which k bytes have come. -/
def pw (b : List UInt8) (k j : Nat) : Nat := beW ((b.drop (4 * j)).take (min 4 (k - 4 * j)))
def partL (b : List UInt8) (k : Nat) : List Nat := ((List.range 16).map fun j => pw b k j) ++ List.replicate 48 0
theorem partL_length (b : List UInt8) (k : Nat) : (partL b k).length = 64 := by simp [partL]
theorem partL_zero (b : List UInt8) : partL b 0 = List.replicate 64 0 := by
  have : ∀ j, pw b 0 j = 0 := fun j => by simp [pw, beW]
  simp only [partL, this]
  rfl
theorem partL_all (b : List UInt8) : partL b 64 = wordsN b ++ List.replicate 48 0 := by
  have : ((List.range 16).map fun j => pw b 64 j) = wordsN b := by
    apply List.map_congr_left
    intro j hj
    rw [List.mem_range] at hj
    unfold pw
    rw [show min 4 (64 - 4 * j) = 4 by omega]
  unfold partL
  rw [this]
theorem partL_get (b : List UInt8) (k i : Nat) (h : i < 16) : (partL b k).getD i 0 = pw b k i := by
  rw [List.getD_eq_getElem?_getD, partL, List.getElem?_append_left (by simpa using h)]
  simp [h]
theorem beW_snoc (l : List UInt8) (c : UInt8) : beW (l ++ [c]) = beW l * 256 + c.toNat := by simp [beW]
theorem beW_lt (l : List UInt8) : beW l < 256 ^ l.length := by
  suffices ∀ (l : List UInt8) (n k : Nat), n < 256 ^ k → l.foldl (fun n c => n * 256 + c.toNat) n < 256 ^ (k + l.length) by have := this l 0 0 (by simp); simpa [beW] using this
  intro l
  induction l with
  | nil => intro n k h; simpa using h
  | cons c l ih =>
    intro n k h
    have hc : c.toNat < 256 := c.toNat_lt
    have := ih (n * 256 + c.toNat) (k + 1) (by rw [Nat.pow_succ]; omega)
    simpa [Nat.add_assoc, Nat.add_comm, Nat.add_left_comm] using this
theorem beW_lt4 (l : List UInt8) (h : l.length ≤ 4) : beW l < 4294967296 := Nat.lt_of_lt_of_le (beW_lt l) (by
  have : 256 ^ l.length ≤ 256 ^ 4 := Nat.pow_le_pow_right (by decide) h
  simpa using this)
theorem beW_lt3 (l : List UInt8) (h : l.length ≤ 3) : beW l < 16777216 := Nat.lt_of_lt_of_le (beW_lt l) (by
  have : 256 ^ l.length ≤ 256 ^ 3 := Nat.pow_le_pow_right (by decide) h
  simpa using this)
theorem pw_step (b : List UInt8) (k : Nat) (h : k < b.length) : pw b (k + 1) (k / 4) = pw b k (k / 4) * 256 + b[k].toNat ∧ pw b k (k / 4) < 16777216 := by
  have h1 : min 4 (k + 1 - 4 * (k / 4)) = (k - 4 * (k / 4)) + 1 := by omega
  have h2 : min 4 (k - 4 * (k / 4)) = k - 4 * (k / 4) := by omega
  have h3 : k - 4 * (k / 4) < (b.drop (4 * (k / 4))).length := by rw [List.length_drop]; omega
  refine ⟨?_, beW_lt3 _ (by rw [List.length_take]; omega)⟩
  unfold pw
  rw [h1, h2, List.take_succ_eq_append_getElem h3, beW_snoc, List.getElem_drop]
  congr 3
  omega
theorem pw_other (b : List UInt8) (k j : Nat) (h : j ≠ k / 4) : pw b (k + 1) j = pw b k j := by
  unfold pw
  rw [show min 4 (k + 1 - 4 * j) = min 4 (k - 4 * j) by omega]
theorem partL_set (b : List UInt8) (k : Nat) (hk : k < 64) : (partL b k).set (k / 4) (pw b (k + 1) (k / 4)) = partL b (k + 1) := by
  have hk4 : k / 4 < 16 := by omega
  unfold partL
  rw [List.set_append_left _ _ (by simpa using hk4)]
  congr 1
  apply List.ext_getElem?
  intro j
  rw [List.getElem?_set]
  by_cases hj : j < 16
  · by_cases e : k / 4 = j
    · subst e; simp [hk4]
    · simp [e, hj, pw_other b k j (fun h => e h.symm)]
  · have : ¬ k / 4 = j := by omega
    rw [if_neg this, List.getElem?_eq_none (by simp; omega), List.getElem?_eq_none (by simp; omega)]
theorem wordsN_ok (b : List UInt8) : ∀ x ∈ wordsN b, x < 4294967296 := by
  intro x hx
  obtain ⟨j, _, rfl⟩ := List.mem_map.1 hx
  exact beW_lt4 _ (by rw [List.length_take]; omega)
theorem wordsN_length (b : List UInt8) : (wordsN b).length = 16 := by simp [wordsN]

/-- 'x << 8 | c', where there is room. -/
theorem or_byte32 (x : Nat) (c : UInt8) (h : x < 16777216) : bits .or .u32 ((x : Int) * 256 % 4294967296) ((c.toNat : Int) % 4294967296) = ((x * 256 + c.toNat : Nat) : Int) := by
  have hc : c.toNat < 256 := c.toNat_lt
  have e1 : (x : Int) * 256 % 4294967296 = ((x * 256 : Nat) : Int) := by omega
  have e2 : (c.toNat : Int) % 4294967296 = (c.toNat : Int) := by omega
  rw [e1, e2, u32_or_nat (x * 256) c.toNat (by omega) (by omega)]
  have := Nat.shiftLeft_add_eq_or_of_lt (b := c.toNat) (i := 8) (by simpa using hc) x
  rw [Nat.shiftLeft_eq] at this
  simp only [Nat.reducePow] at this
  omega

/-- The words, of which 16 + k are there. -/
def schedR (ws : List Nat) (k : Nat) : List Nat := sched ws k ++ List.replicate (48 - k) 0
theorem schedR_length (ws : List Nat) (h : ws.length = 16) (k : Nat) (hk : k ≤ 48) : (schedR ws k).length = 64 := by simp [schedR, sched_length ws h k]; omega
theorem schedR_get (ws : List Nat) (h : ws.length = 16) (k i : Nat) (hi : i < 16 + k) : (schedR ws k).getD i 0 = (sched ws k).getD i 0 := by
  simp only [List.getD_eq_getElem?_getD, schedR]
  rw [List.getElem?_append_left (by rw [sched_length ws h k]; exact hi)]
theorem schedR_set (ws : List Nat) (h : ws.length = 16) (k : Nat) (hk : k < 48) : (schedR ws k).set (16 + k) (nextW (sched ws k) (16 + k)) = schedR ws (k + 1) := by
  unfold schedR
  rw [List.set_append_right _ _ (by rw [sched_length ws h k]; exact Nat.le_refl _), sched_length ws h k, Nat.sub_self, show 48 - k = (48 - (k + 1)) + 1 by omega, List.replicate_succ, List.set_cons_zero]
  simp [sched]
theorem schedR_done (ws : List Nat) : schedR ws 48 = sched ws 48 := by simp [schedR]

theorem sched_cell {w : World} {g : Nat} {ws : List Nat} {k : Nat} (hB : Blk w g 84 (rowU (schedR ws k))) (hw : ws.length = 16) (hk : k < 48) (i : Nat) (hi : i < 16 + k) :
    w.cell? ⟨g, i, none⟩ = some (.int .u32 ((sched ws k).getD i 0 : Int)) := by
  rw [hB.cell, rowU_getD (by rw [schedR_length ws hw k (by omega)]; omega), schedR_get ws hw k i hi]
theorem sched_cellx {w : World} {g : Nat} {ws : List Nat} {k : Nat} (hB : Blk w g 84 (rowU (schedR ws k))) (hw : ws.length = 16) (hk : k < 48) :
    w.cell? ⟨g, 16 + k, none⟩ = some (.int .u32 ((schedR ws k).getD (16 + k) 0 : Int)) := by
  rw [hB.cell, rowU_getD (by rw [schedR_length ws hw k (by omega)]; omega)]
theorem s0_any (x : Nat) (h : x < 4294967296) : bits .xor .u32 (rots x [7, 18] : Int) ((x : Int) / 8) = ((s0N x : Nat) : Int) := by
  have := u32_xor_nat (rots x [7, 18]) (x / 8) (rots_lt _ _ h) (by omega)
  rw [s0N, ← this]
  simp
theorem s1_any (x : Nat) (h : x < 4294967296) : bits .xor .u32 (rots x [17, 19] : Int) ((x : Int) / 1024) = ((s1N x : Nat) : Int) := by
  have := u32_xor_nat (rots x [17, 19]) (x / 1024) (rots_lt _ _ h) (by omega)
  rw [s1N, ← this]
  simp
theorem add4_any (a b c d : Nat) : ((a : Int) + (b : Int) + (c : Int) + (d : Int)) % 4294967296 = ((addN (addN (addN a b) c) d : Nat) : Int) := by unfold addN; omega
theorem addN_any (x y : Nat) : ((x : Int) + (y : Int)) % 4294967296 = ((addN x y : Nat) : Int) := by unfold addN; omega

set_option maxHeartbeats 600000 in
theorem stretched_any (v : Value) (b : List UInt8) (w : World) (hs : Sl w v b) (hb : b.length = 64) :
    Calls Tryd.prog 55 #[v] w fun e w' => e = .returned (.agg (rowU (sched (wordsN b) 48))) ∧ Below w.heap.size w w' := by
  have hs' := hs
  obtain ⟨A, c, rfl, hc, ha⟩ := hs
  clear ha
  go_enter Tryd.func55, Tryd.ntmps55
  go_wp2
  have E0 : rowU (partL b 0) = rowU (List.replicate 64 0) := by rw [partL_zero]
  change Code.wp _ _ _ _ ((w.alloc (.cells (rowU (List.replicate 64 0)) 84)).alloc (.cells (rowU (List.replicate 64 0)) 84))
  have hB0 := (Blk.new w 84 (rowU (List.replicate 64 0))).alloc (.cells (rowU (List.replicate 64 0)) 84)
  have hB1 := Blk.new (w.alloc (.cells (rowU (List.replicate 64 0)) 84)) 84 (rowU (List.replicate 64 0))
  rw [show (w.alloc (.cells (rowU (List.replicate 64 0)) 84)).heap.size = w.heap.size + 1 by simp] at hB1
  have hbb : Below w.heap.size w ((w.alloc (.cells (rowU (List.replicate 64 0)) 84)).alloc (.cells (rowU (List.replicate 64 0)) 84)) := ((Below.refl _ _).alloc (Nat.le_refl _) _).alloc (by simp) _
  generalize (w.alloc (.cells (rowU (List.replicate 64 0)) 84)).alloc (.cells (rowU (List.replicate 64 0)) 84) = W at hB0 hB1 hbb ⊢
  rw [← E0] at hB1
  clear E0
  have hZ : (rowU (List.replicate 64 0)).size = 64 := by rw [rowU_size, List.length_replicate]
  generalize rowU (List.replicate 64 0) = Z at hB0 hZ
  go_loopw [13] (fun z wr => ∃ k : Nat, k ≤ 64 ∧ z = .int .i64 (k : Int) ∧ Blk wr w.heap.size 84 Z ∧ Blk wr (w.heap.size + 1) 84 (rowU (partL b k)) ∧ Below w.heap.size w wr) (fun z _ => 64 - (intOf z).toNat)
  case atStart => exact ⟨0, Nat.zero_le _, rfl, hB0, hB1, hbb⟩
  case round =>
    clear hB0 hB1 hbb
    obtain ⟨k, hk, rfl, hB0, hB, hbw⟩ := hrel
    by_cases hlt : k < 64
    · have hkb : k < b.length := by omega
      obtain ⟨A', c', e, _, ha⟩ := hs'.below hbw
      injection e with e1 e2 e3
      subst e1 e3
      obtain ⟨bb, o, rfl, hx⟩ := ha (by omega)
      have hcell := hx k hkb
      have hp := pw_step b k hkb
      have hc2 : wr.cell? ⟨w.heap.size + 1, k / 4, none⟩ = some (.int .u32 (pw b k (k / 4) : Int)) := by
        rw [hB.cell, rowU_getD (by rw [partL_length]; omega), partL_get _ _ _ (by omega)]
      have hfr := hB.frozen (k / 4)
      have HS := Lib.hid (partL_set b k hlt)
      have HO := Lib.hid (or_byte32 (pw b k (k / 4)) b[k] hp.2)
      have HE := Lib.hid hp.1
      have h16 : k / 4 < 64 := by omega
      clear hx ha hs' hp
      generalize pw b k (k / 4) = x at hc2 HO HE
      generalize b[k] = cc at hcell HO HE
      go_wp2
      go_roundw
      case rel => exact ⟨k + 1, by omega, by go_num, hB0.far (by simp) _, by rw [HO.out, ← HE.out, ← HS.out, ← rowU_set]; exact hB.set_ _ _, hbw.setCell (by simp) _⟩
      case measure => simp [intOf]; omega
    · obtain rfl : k = 64 := by omega
      have hB1 : Blk wr (w.heap.size + 1) 84 (rowU (schedR (wordsN b) 0)) := by rw [partL_all] at hB; exact hB
      have hw16 := wordsN_length b
      have hwok := wordsN_ok b
      clear hB hs' hb
      generalize hW : wordsN b = ws at hB1 hw16 hwok
      have EW := Lib.hid hW
      clear hW
      rw [show ((64 : Nat) : Int) = 64 from rfl]
      go_wp2
      go_loopw [6] (fun z wr => ∃ k : Nat, k ≤ 48 ∧ z = .int .i64 ((16 + k : Nat) : Int) ∧ Blk wr w.heap.size 84 Z ∧ Blk wr (w.heap.size + 1) 84 (rowU (schedR ws k)) ∧ Below w.heap.size w wr) (fun z _ => 64 - (intOf z).toNat)
      case atStart => exact ⟨0, Nat.zero_le _, rfl, hB0, hB1, hbw⟩
      case round =>
        clear hB0 hB1 hbw
        obtain ⟨k, hk, rfl, hB0, hB, hbw⟩ := hrel
        by_cases hlt : k < 48
        · have hok := sched_ok ws hwok k
          have c15 := sched_cell hB hw16 hlt (16 + k - 15) (by omega)
          have c2 := sched_cell hB hw16 hlt (16 + k - 2) (by omega)
          have C16 := Lib.hid (fun w' (h : Blk w' (w.heap.size + 1) 84 (rowU (schedR ws k))) => sched_cell h hw16 hlt (16 + k - 16) (by omega))
          have C7 := Lib.hid (fun w' (h : Blk w' (w.heap.size + 1) 84 (rowU (schedR ws k))) => sched_cell h hw16 hlt (16 + k - 7) (by omega))
          have CX := Lib.hid (fun w' (h : Blk w' (w.heap.size + 1) 84 (rowU (schedR ws k))) => sched_cellx h hw16 hlt)
          have l15 := getD_lt hok (16 + k - 15)
          have l2 := getD_lt hok (16 + k - 2)
          have l16 := getD_lt hok (16 + k - 16)
          have l7 := getD_lt hok (16 + k - 7)
          have HN := Lib.hid (show nextW (sched ws k) (16 + k) = addN (addN (addN ((sched ws k).getD (16 + k - 16) 0) (s0N ((sched ws k).getD (16 + k - 15) 0))) ((sched ws k).getD (16 + k - 7) 0)) (s1N ((sched ws k).getD (16 + k - 2) 0)) from rfl)
          have HS := Lib.hid (schedR_set ws hw16 k hlt)
          have HT := Lib.hid (show (16 + (k + 1)) = (16 + k) + 1 from rfl)
          have h16 : 16 ≤ 16 + k := by omega
          have h63 : 16 + k ≤ 63 := by omega
          clear hok
          generalize (sched ws k).getD (16 + k - 15) 0 = x15 at c15 l15 HN
          generalize (sched ws k).getD (16 + k - 2) 0 = x2 at c2 l2 HN
          generalize (sched ws k).getD (16 + k - 16) 0 = x16 at C16 l16 HN
          generalize (sched ws k).getD (16 + k - 7) 0 = x7 at C7 l7 HN
          generalize (schedR ws k).getD (16 + k) 0 = xo at CX
          have i15 : ((16 + k : Nat) : Int) - 15 = ((16 + k - 15 : Nat) : Int) := by omega
          have i2 : ((16 + k : Nat) : Int) - 2 = ((16 + k - 2 : Nat) : Int) := by omega
          have i16 : ((16 + k : Nat) : Int) - 16 = ((16 + k - 16 : Nat) : Int) := by omega
          have i7 : ((16 + k : Nat) : Int) - 7 = ((16 + k - 7 : Nat) : Int) := by omega
          have b15 : 16 + k - 15 ≤ 63 := by omega
          have b2 : 16 + k - 2 ≤ 63 := by omega
          have b16 : 16 + k - 16 ≤ 63 := by omega
          have b7 : 16 + k - 7 ≤ 63 := by omega
          generalize 16 + k - 15 = n15 at c15 i15 b15
          generalize 16 + k - 2 = n2 at c2 i2 b2
          generalize 16 + k - 16 = n16 at C16 i16 b16
          generalize 16 + k - 7 = n7 at C7 i7 b7
          generalize 16 + k = i at *
          go_wp2
          go_quiet (fail)
          have hB1 := hB.drewN nq
          have hB01 := hB0.drewN nq
          have hbw1 := below_drewN hbw nq
          clear c15 c2 i15 i2 hB hB0 hbw
          generalize wr.drewN nq = wr1 at *
          go_wp2_with fail
          refine (rotated_any x15 wr1).mono ?_
          rintro e w1 ⟨rfl, rfl⟩
          go_wp2_with fail
          refine (rot_new x15 [7, 18] #[.int .i64 7, .int .i64 18] 2 wr1 l15 rfl rfl (by decide) (by decide)).mono ?_
          rintro e w2 ⟨rfl, rfl⟩
          have e0 := s0_any x15 l15
          have hB2 := (hB1.alloc (.cells #[.int .u32 (x15 : Int)] 72)).alloc (.cells #[.int .i64 7, .int .i64 18] 3)
          have hB02 := (hB01.alloc (.cells #[.int .u32 (x15 : Int)] 72)).alloc (.cells #[.int .i64 7, .int .i64 18] 3)
          have hbw2 := below_two hbw1 hbw1.size (.cells #[.int .u32 (x15 : Int)] 72) (.cells #[.int .i64 7, .int .i64 18] 3)
          generalize (wr1.alloc (.cells #[.int .u32 (x15 : Int)] 72)).alloc (.cells #[.int .i64 7, .int .i64 18] 3) = wr2 at hB2 hB02 hbw2 ⊢
          clear hB1 hB01 hbw1
          generalize rots x15 [7, 18] = r15 at e0 ⊢
          generalize s0N x15 = y15 at e0 HN
          go_wp2_with fail
          clear e0
          refine (rotated_any x2 wr2).mono ?_
          rintro e w1 ⟨rfl, rfl⟩
          go_wp2_with fail
          refine (rot_new x2 [17, 19] #[.int .i64 17, .int .i64 19] 2 wr2 l2 rfl rfl (by decide) (by decide)).mono ?_
          rintro e w3 ⟨rfl, rfl⟩
          have e1 := s1_any x2 l2
          have hB3 := (hB2.alloc (.cells #[.int .u32 (x2 : Int)] 72)).alloc (.cells #[.int .i64 17, .int .i64 19] 3)
          have hB03 := (hB02.alloc (.cells #[.int .u32 (x2 : Int)] 72)).alloc (.cells #[.int .i64 17, .int .i64 19] 3)
          have hbw3 := below_two hbw2 hbw2.size (.cells #[.int .u32 (x2 : Int)] 72) (.cells #[.int .i64 17, .int .i64 19] 3)
          generalize (wr2.alloc (.cells #[.int .u32 (x2 : Int)] 72)).alloc (.cells #[.int .i64 17, .int .i64 19] 3) = wr3 at hB3 hB03 hbw3 ⊢
          clear hB2 hB02 hbw2
          generalize rots x2 [17, 19] = r2 at e1 ⊢
          generalize s1N x2 = y2 at e1 HN
          have c16 := C16.out wr3 hB3
          have c7 := C7.out wr3 hB3
          have cx := CX.out wr3 hB3
          have hfr := hB3.frozen i
          go_wp2
          clear e1
          go_region
          clear i16 i7
          have EV := Lib.hid (add4_any x16 y15 x7 y2)
          rw [EV.out]
          go_wp2
          go_roundw
          case rel => exact ⟨k + 1, by omega, by rw [HT.out]; go_num, (hB03.far (by simp) _).drew, by rw [← HN.out, ← HS.out, ← rowU_set]; exact (hB3.set_ _ _).drew, (hbw3.setCell (by simp) _).drew⟩
          case measure => simp [intOf]; omega
        · obtain rfl : k = 48 := by omega
          rw [schedR_done] at hB
          have h64 : (sched ws 48).length = 64 := sched_length ws hw16 48
          have hi := rowU_info64 _ h64
          have h1 := rowU_one (sched ws 48)
          have hs64 := rowU_size (sched ws 48)
          rw [h64] at hs64
          generalize hT : rowU (sched ws 48) = T at hB hi h1 hs64
          have ET := Lib.hid hT
          clear hT
          rw [show ((16 + 48 : Nat) : Int) = 64 from rfl]
          have hth : wr.there w.heap.size 0 T.size := by rw [hs64, ← hZ]; exact hB0.there
          go_wp2_with (first | (refine wpList_load_row rfl 84 _ rfl (w.heap.size + 1) rfl 84 T (0, 0) _ hB Tryd.underlying84 rfl hi ?_) | (refine wpList_store_mid rfl 84 _ _ rfl w.heap.size 0 T rfl rfl hth hi h1 ?_))
          have hE : Blk (wr.setCells w.heap.size 0 T.toList) w.heap.size 84 T := hB0.setRow (by rw [hs64, hZ])
          have hgE := grown_setCells w.heap.size T.toList 0 wr
          exact bodyPost_ret (v := .agg T) (results_cell_row rfl _ _ w.heap.size 84 T (0, 0) _ rfl hE Tryd.underlying84 rfl hi) rfl ⟨by rw [EW.out, ET.out], Below.only hbw hgE (Nat.le_refl _) hbw.size⟩
end Go.Proofs.YthlopecllhdmhaaDoor

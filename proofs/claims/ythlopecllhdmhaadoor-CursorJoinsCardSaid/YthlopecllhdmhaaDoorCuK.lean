/-
  The cursor chapter's rows.
-/
import Derived.Test.YthlopecllhdmhaaDoorCuR
import Derived.Test.YthlopecllhdmhaaDoorCutRead
namespace Go.Proofs.YthlopecllhdmhaaDoor
open Go.RowKit
open CtxM
set_option linter.unusedVariables false
set_option linter.unusedSimpArgs false
set_option maxRecDepth 20000

def kV : List Nat := [3, 0, 5, 0, 0, 0, 0, 0, 0, 0, 0, 0, 0, 0, 0, 0]
def kA : ByteArray := ⟨#[97]⟩
def kB : ByteArray := ⟨#[98]⟩
set_option maxRecDepth 100000 in
theorem k_ne : (codeN [115] (cuT kA (vecB kV)) == codeN [115] (cuT kB (vecB kV))) = false := by kernel_rfl
theorem boxThere (w : World) (V : List Nat) (h : V.length = 16) : (w.alloc (.cells (uqs (z16 0 0)) 25)).there w.heap.size 0 (uqs V).size := by
  have := (Blk.new w 25 (uqs (z16 0 0))).there
  rw [uqs_size] at this ⊢
  rw [h]; exact this
theorem boxNew (w : World) {V : List Nat} (h : V.length = 16) : Blk ((w.alloc (.cells (uqs (z16 0 0)) 25)).setCells w.heap.size 0 (uqs V).toList) w.heap.size 25 (uqs V) ∧ Below w.heap.size w ((w.alloc (.cells (uqs (z16 0 0)) 25)).setCells w.heap.size 0 (uqs V).toList) :=
  ⟨(Blk.new w 25 (uqs (z16 0 0))).setRow (by rw [uqs_size, uqs_size, h]; rfl), Below.only ((Below.refl _ _).alloc (Nat.le_refl _) _) (grown_setCells _ _ _ _) (Nat.le_refl _) (by simp)⟩
theorem vecN_curB (s : List UInt8) (d : ByteArray) {V : List Nat} (hV : V.length = 16) (hlt : ∀ n ∈ V, n < 18446744073709551616) : (curB s d V).take 128 = vecB V ∧ (curB s d V).drop 128 = codeN s (cuT d (vecB V)) ∧ vecN ((curB s d V).take 128) = V := by
  have h1 : (curB s d V).take 128 = vecB V := by
    unfold curB
    exact List.take_left' (by rw [vecB_length, hV])
  have h2 : (curB s d V).drop 128 = codeN s (cuT d (vecB V)) := by
    unfold curB
    exact List.drop_left' (by rw [vecB_length, hV])
  refine ⟨h1, h2, ?_⟩
  rw [h1]
  exact vecN_vecB _ V (vec_of V hV hlt)
theorem top_lt {V : List Nat} (h : ∀ n ∈ V, n ≤ top) : ∀ n ∈ V, n < 18446744073709551616 := fun n hn => by have := h n hn; unfold top at this; omega
/-- A cursor is read as its vector. -/
theorem curOf_curB (s : List UInt8) (d : ByteArray) {V : List Nat} (hV : V.length = 16) (hN : nameB d = true) (hM : ∀ n ∈ V, n ≤ top) : curOf s d (curB s d V) = (V, 0) := by
  obtain ⟨h1, h2, h3⟩ := vecN_curB s d hV (top_lt hM)
  have hl := curB_length s d hV
  unfold curOf
  rw [if_neg (by rw [hN]; simp), if_neg (fun h => by rw [h] at hl; cases hl), if_neg (fun h => h hl), h3, h2, h1, if_pos ⟨hM, rfl⟩]
theorem kV_len : kV.length = 16 := rfl
theorem kV_top : ∀ n ∈ kV, n ≤ top := by decide
theorem kA_name : nameB kA = true := by decide
theorem kB_name : nameB kB = true := by decide
theorem of_1 : curOf [115] kA (curB [115] kA kV) = (kV, 0) := curOf_curB _ _ kV_len kA_name kV_top
theorem of_2 : curOf [115] kB (curB [115] kA kV) = (z16 0 0, 9) := by
  obtain ⟨h1, h2, h3⟩ := vecN_curB [115] kA kV_len (top_lt kV_top)
  have hl := curB_length [115] kA kV_len
  unfold curOf
  rw [if_neg (by rw [kB_name]; simp), if_neg (fun h => by rw [h] at hl; cases hl), if_neg (fun h => h hl), h3, h2, h1, if_neg (fun h => by
    have := k_ne
    rw [beq_eq_false_iff_ne] at this
    exact this h.2)]
theorem of_3 : curOf [115] kA [] = (z16 0 0, 0) := by unfold curOf; rw [if_neg (by rw [kA_name]; simp), if_pos rfl]
theorem of_4 : curOf [115] kA ((curB [115] kA kV).drop 1) = (z16 0 0, 9) := by
  have hl := curB_length [115] kA kV_len
  unfold curOf
  rw [if_neg (by rw [kA_name]; simp), if_neg (fun h => by have := congrArg List.length h; rw [List.length_drop, hl] at this; cases this), if_pos (by rw [List.length_drop, hl]; decide)]
/-- Where the rows stand. -/
structure Kb (KV : List Nat) (CB : List UInt8) (w W : World) (sv : Value) (gV : Nat) (b : Value) : Prop where
  ss : Sl W sv [115]
  vv : Blk W gV 25 (uqs KV)
  by_ : Sl W b CB
  gg : Gl W
  bb : Below w.heap.size w W
theorem Kb.below {KV : List Nat} {CB : List UInt8} {w W W' : World} {sv b : Value} {gV : Nat} (h : Kb KV CB w W sv gV b) (hb : Below W.heap.size W W') : Kb KV CB w W' sv gV b :=
  ⟨h.ss.below hb, h.vv.below hb h.vv.lt, h.by_.below hb, h.gg.below hb, h.bb.trans (hb.mono h.bb.size)⟩

set_option maxHeartbeats 4000000 in
theorem cknown_any (w : World) (hg : Gl w) : Calls Tryd.prog 6 #[] w fun e w' => e = .returned (.bool true) ∧ Below w.heap.size w w' := by
  have kc := fun (w : World) (C : Array Value) (n c : Nat) => Lib.run_convert_bytes_const (P := Tryd.prog) w 22 5 C n c Tryd.underlying22 Tryd.underlying5
  have s1 : ∀ fr, (w.alloc (.cells #[.int .u8 115] 5 fr)).heap.size = w.heap.size + 1 := fun fr => by simp
  obtain ⟨KV, hKV⟩ : ∃ X : List Nat, X = kV := ⟨_, rfl⟩
  have l16 : KV.length = 16 := by rw [hKV]; rfl
  have ktop : ∀ n ∈ KV, n ≤ top := by rw [hKV]; exact kV_top
  have e1 : ∀ W, (Op.equalIn 10000 25 (.agg (uqs KV)) (.agg (uqs KV))).run Tryd.prog W = .ok true W := fun W => by have := vec_eq KV KV l16 l16 W; rwa [decide_eq_true rfl] at this
  obtain ⟨CB, hCB⟩ : ∃ X : List UInt8, X = curB [115] kA KV := ⟨_, rfl⟩
  have hlen : CB.length = 160 := by rw [hCB]; exact curB_length _ _ l16
  have o1 : curOf [115] kA CB = (KV, 0) := by rw [hCB, hKV]; exact of_1
  obtain ⟨ZV, hZV⟩ : ∃ X : List Nat, X = z16 0 0 := ⟨_, rfl⟩
  have z16' : ZV.length = 16 := by rw [hZV]; rfl
  have e2 : ∀ W, (Op.equalIn 10000 25 (.agg (uqs ZV)) (.agg #[.int .u64 0, .int .u64 0, .int .u64 0, .int .u64 0, .int .u64 0, .int .u64 0, .int .u64 0, .int .u64 0, .int .u64 0, .int .u64 0, .int .u64 0, .int .u64 0, .int .u64 0, .int .u64 0, .int .u64 0, .int .u64 0])).run Tryd.prog W = .ok true W := fun W => by rw [hZV]; have := vec_eq (z16 0 0) (z16 0 0) rfl rfl W; rw [decide_eq_true rfl] at this; exact this
  have o2 : curOf [115] kB CB = (ZV, 9) := by rw [hCB, hKV, hZV]; exact of_2
  have o3 : curOf [115] kA [] = (ZV, 0) := by rw [hZV]; exact of_3
  have o4 : curOf [115] kA (CB.drop 1) = (ZV, 9) := by rw [hCB, hKV, hZV]; exact of_4
  have HKV := Lib.hid hKV
  have HCB := Lib.hid hCB
  have HLEN := Lib.hid hlen
  clear hKV hCB hlen hZV
  go_enter Tryd.func6, Tryd.ntmps6
  go_upto_region 1 with fail
  go_upto_region 2 with (refine wpList_store_mid rfl 25 _ _ rfl (w.heap.size + 1) 0 (uqs kV) rfl rfl (by have := boxThere (w.alloc (.cells #[.int .u8 115] 5 (1, 2))) kV rfl; rw [s1] at this; exact this) (uqs_info (U := kV) rfl) (uqs_one _) ?_)
  have hS : Sl (w.alloc (.cells #[.int .u8 115] 5 (1, 2))) (.slice (some ⟨w.heap.size, 0, none⟩) 1 1) [115] := Sl.of_mark w 5 _ _ [115] 1 1 rfl (Nat.le_refl _) rfl
  have hb1 : Below w.heap.size w (w.alloc (.cells #[.int .u8 115] 5 (1, 2))) := (Below.refl _ _).alloc (Nat.le_refl _) _
  obtain ⟨q1, bq1⟩ := boxNew (w.alloc (.cells #[.int .u8 115] 5 (1, 2))) (V := kV) rfl
  rw [s1] at q1 bq1
  change Code.wp _ _ _ _ (((w.alloc (.cells #[.int .u8 115] 5 (1, 2))).alloc (.cells (uqs (z16 0 0)) 25)).setCells (w.heap.size + 1) 0 (uqs kV).toList)
  have hg1 := hg.below hb1
  have bq1' : Below (w.alloc (.cells #[.int .u8 115] 5 (1, 2))).heap.size (w.alloc (.cells #[.int .u8 115] 5 (1, 2))) (((w.alloc (.cells #[.int .u8 115] 5 (1, 2))).alloc (.cells (uqs (z16 0 0)) 25)).setCells (w.heap.size + 1) 0 (uqs kV).toList) := by rw [s1]; exact bq1
  have hS2 := hS.below bq1'
  have hg2 := hg1.below bq1'
  have hbw := hb1.trans (bq1'.mono hb1.size)
  clear hS hb1 bq1 bq1' hg1 hg
  generalize ((w.alloc (.cells #[.int .u8 115] 5 (1, 2))).alloc (.cells (uqs (z16 0 0)) 25)).setCells (w.heap.size + 1) 0 (uqs kV).toList = W2 at q1 hS2 hg2 hbw ⊢
  rw [← HKV.out] at q1
  generalize hgV : w.heap.size + 1 = gV at q1 ⊢
  clear hgV kc s1
  go_upto_region 3 with (first | (refine wpList_load_mid_g (by rfl) 25 _ rfl (gV) 0 rfl (uqs KV) _ (uqs_range q1) Tryd.underlying25 rfl (uqs_info l16) ?_; try simp only [Act.put, List.setIfInBounds_toArray, List.set_cons_zero, List.set_cons_succ]) | (go_at_call 7; refine (cbytes_yes _ [115] kA KV _ hS2 (by decide) l16 kA_name (decide_eq_true ktop) hg2).mono ?_; rintro e w3 ⟨v3, rfl, ho3, hb3⟩))
  rw [← HCB.out] at ho3
  have K3 : Kb KV CB w w3 (.slice (some ⟨w.heap.size, 0, none⟩) 1 1) gV v3 := ⟨hS2.below hb3, q1.below hb3 q1.lt, ho3.sl, hg2.below hb3, hbw.trans (hb3.mono hbw.size)⟩
  obtain ⟨gb, cb, rfl, hcb⟩ : ∃ g c, v3 = .slice (some ⟨g, 0, none⟩) 160 c ∧ 160 ≤ c := by
    rcases ho3.2 with ⟨_, h0⟩ | ⟨g, cap, cur, rfl, _, _, hnc, _⟩
    · rw [HLEN.out] at h0; cases h0
    · rw [HLEN.out] at hnc ⊢
      exact ⟨g, cap, rfl, hnc⟩
  clear hS2 hg2 hbw q1 ho3 hb3
  go_upto_region 5 with (first | (go_at_call 11; refine (cnum_any _ _).mono ?_; rintro e wn ⟨rfl, hwn⟩; obtain rfl := hwn.symm))
  go_wp2_with fail
  refine (cof_any _ [115] kA _ CB _ K3.ss K3.by_ (by decide) K3.gg).mono ?_
  rintro e x5 ⟨rfl, hx⟩
  rw [show curOf [115] kA CB = (KV, 0) from o1]
  have k1 := K3.below hx
  go_upto_region 6 with (refine wpList_store_mid rfl 25 _ _ rfl (x5).heap.size 0 (uqs KV) rfl rfl (boxThere _ _ l16) (uqs_info l16) (uqs_one _) ?_; try simp only [Act.put, List.setIfInBounds_toArray, List.set_cons_zero, List.set_cons_succ])
  change Code.wp _ _ _ _ ((x5.alloc (.cells (uqs (z16 0 0)) 25)).setCells x5.heap.size 0 (uqs KV).toList)
  obtain ⟨p5, bq⟩ := boxNew x5 (V := KV) l16
  have K5 := k1.below bq
  generalize (x5.alloc (.cells (uqs (z16 0 0)) 25)).setCells x5.heap.size 0 (uqs KV).toList = W5 at p5 K5 ⊢
  clear k1 bq hx K3
  generalize x5.heap.size = g5 at p5 ⊢
  go_wp2_with fail
  refine (cof_any _ [115] kB _ CB _ K5.ss K5.by_ (by decide) K5.gg).mono ?_
  rintro e x6 ⟨rfl, hx⟩
  rw [show curOf [115] kB CB = (ZV, 9) from o2]
  have k1 := K5.below hx
  have c5 := p5.below hx p5.lt
  go_upto_region 7 with (refine wpList_store_mid rfl 25 _ _ rfl (x6).heap.size 0 (uqs ZV) rfl rfl (boxThere _ _ z16') (uqs_info z16') (uqs_one _) ?_; try simp only [Act.put, List.setIfInBounds_toArray, List.set_cons_zero, List.set_cons_succ])
  change Code.wp _ _ _ _ ((x6.alloc (.cells (uqs (z16 0 0)) 25)).setCells x6.heap.size 0 (uqs ZV).toList)
  obtain ⟨p6, bq⟩ := boxNew x6 (V := ZV) z16'
  have K6 := k1.below bq
  have p5 := c5.below bq c5.lt
  clear c5
  generalize (x6.alloc (.cells (uqs (z16 0 0)) 25)).setCells x6.heap.size 0 (uqs ZV).toList = W6 at p6 K6 p5 ⊢
  clear k1 bq hx K5
  generalize x6.heap.size = g6 at p6 ⊢
  go_wp2_with fail
  refine (cof_any _ [115] kA _ [] _ K6.ss (Sl.nil none 0) (by decide) K6.gg).mono ?_
  rintro e x7 ⟨rfl, hx⟩
  rw [show curOf [115] kA [] = (ZV, 0) from o3]
  have k1 := K6.below hx
  have c5 := p5.below hx p5.lt
  go_upto_region 8 with (refine wpList_store_mid rfl 25 _ _ rfl (x7).heap.size 0 (uqs ZV) rfl rfl (boxThere _ _ z16') (uqs_info z16') (uqs_one _) ?_; try simp only [Act.put, List.setIfInBounds_toArray, List.set_cons_zero, List.set_cons_succ])
  change Code.wp _ _ _ _ ((x7.alloc (.cells (uqs (z16 0 0)) 25)).setCells x7.heap.size 0 (uqs ZV).toList)
  obtain ⟨p7, bq⟩ := boxNew x7 (V := ZV) z16'
  have K7 := k1.below bq
  have p5 := c5.below bq c5.lt
  clear c5
  generalize (x7.alloc (.cells (uqs (z16 0 0)) 25)).setCells x7.heap.size 0 (uqs ZV).toList = W7 at p7 K7 p5 ⊢
  clear k1 bq hx K6
  generalize x7.heap.size = g7 at p7 ⊢
  have hcb1 : ¬ cb = 1 := by omega
  have hcb2 : (1 : Int) ≤ 160 := by decide
  have hcb3 : (160 : Int) ≤ (cb : Int) := by omega
  have SB : Sl W7 (.slice (some ⟨gb, 0 + 1, none⟩) 159 (cb - 1)) (CB.drop 1) := K7.by_.behind 1 (by have := HLEN.out; omega) (fun b o h _ => by injection h with h; injection h with h1 h2; subst h1 h2; rfl) 159 (cb - 1) rfl rfl
  go_wp2_with fail
  refine (cof_any _ [115] kA _ (CB.drop 1) _ K7.ss SB (by decide) K7.gg).mono ?_
  rintro e x8 ⟨rfl, hx⟩
  rw [show curOf [115] kA (CB.drop 1) = (ZV, 9) from o4]
  have k1 := K7.below hx
  have c5 := p5.below hx p5.lt
  have c7 := p7.below hx p7.lt
  go_upto_region 9 with (refine wpList_store_mid rfl 25 _ _ rfl (x8).heap.size 0 (uqs ZV) rfl rfl (boxThere _ _ z16') (uqs_info z16') (uqs_one _) ?_; try simp only [Act.put, List.setIfInBounds_toArray, List.set_cons_zero, List.set_cons_succ])
  change Code.wp _ _ _ _ ((x8.alloc (.cells (uqs (z16 0 0)) 25)).setCells x8.heap.size 0 (uqs ZV).toList)
  obtain ⟨p8, bq⟩ := boxNew x8 (V := ZV) z16'
  have K8 := k1.below bq
  have p5 := c5.below bq c5.lt
  clear c5
  have p7 := c7.below bq c7.lt
  clear c7
  generalize (x8.alloc (.cells (uqs (z16 0 0)) 25)).setCells x8.heap.size 0 (uqs ZV).toList = W8 at p8 K8 p5 p7 ⊢
  clear k1 bq hx SB K7
  generalize x8.heap.size = g8 at p8 ⊢
  go_upto_region 10 with (first | (refine wpList_load_mid_g (by rfl) 25 _ rfl (gV) 0 rfl (uqs KV) _ (uqs_range K8.vv) Tryd.underlying25 rfl (uqs_info l16) ?_; try simp only [Act.put, List.setIfInBounds_toArray, List.set_cons_zero, List.set_cons_succ]) | (go_at_call 7; refine (cbytes_no _ _ KV _ l16 (.inl rfl)).mono ?_; rintro e w9 ⟨rfl, hb9⟩))
  have K9 := K8.below hb9
  have r5 := p5.below hb9 p5.lt
  have r7 := p7.below hb9 p7.lt
  go_wp2_with (first | (refine wpList_load_mid_g (by rfl) 25 _ rfl (g5) 0 rfl (uqs KV) _ (uqs_range r5) Tryd.underlying25 rfl (uqs_info l16) ?_; try simp only [Act.put, List.setIfInBounds_toArray, List.set_cons_zero, List.set_cons_succ]) | (refine wpList_load_mid_g (by rfl) 25 _ rfl (gV) 0 rfl (uqs KV) _ (uqs_range K9.vv) Tryd.underlying25 rfl (uqs_info l16) ?_; try simp only [Act.put, List.setIfInBounds_toArray, List.set_cons_zero, List.set_cons_succ]) | (refine wpList_load_mid_g (by rfl) 25 _ rfl (g7) 0 rfl (uqs ZV) _ (uqs_range r7) Tryd.underlying25 rfl (uqs_info z16') ?_; try simp only [Act.put, List.setIfInBounds_toArray, List.set_cons_zero, List.set_cons_succ]) | (go_at_call 11; refine (cnum_any _ _).mono ?_; rintro e wn ⟨rfl, hwn⟩; obtain rfl := hwn.symm))
  go_ret
  exact ⟨rfl, K9.bb⟩
end Go.Proofs.YthlopecllhdmhaaDoor

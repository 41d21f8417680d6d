/-
  The cursor's small functions, and the document's beside them.
-/
import Derived.Test.YthlopecllhdmhaaDoorEvRef
import Derived.Test.YthlopecllhdmhaaDoorHeldA
import Derived.Test.YthlopecllhdmhaaDoorReadV
import Derived.Test.YthlopecllhdmhaaDoorShaCode
import Derived.Test.YthlopecllhdmhaaDoorJoin
import Derived.Test.YthlopecllhdmhaaDoorShaRefCode
namespace Go.Proofs.YthlopecllhdmhaaDoor
open Go.RowKit
open CtxM
set_option linter.unusedVariables false
set_option linter.unusedSimpArgs false
set_option maxRecDepth 20000

theorem maxV_ext {A B : List Nat} (hA : A.length = 16) (hB : B.length = 16) (h : ∀ i, i < 16 → A.getD i 0 = B.getD i 0) : A = B := by
  apply List.ext_getElem (by omega)
  intro i h1 h2
  have := h i (by omega)
  simpa [List.getD_eq_getElem?_getD, List.getElem?_eq_getElem h1, List.getElem?_eq_getElem h2] using this
theorem maxV_comm (A B : List Nat) : maxV A B = maxV B A := maxV_ext (maxV_length _ _) (maxV_length _ _) fun i hi => by rw [maxV_getD _ _ i hi, maxV_getD _ _ i hi]; omega
theorem maxV_left (A B : List Nat) : maxV (maxV A B) A = maxV A B := maxV_ext (maxV_length _ _) (maxV_length _ _) fun i hi => by rw [maxV_getD _ _ i hi, maxV_getD _ _ i hi]; omega
theorem maxV_assoc (A B C : List Nat) : maxV (maxV A B) C = maxV A (maxV B C) := maxV_ext (maxV_length _ _) (maxV_length _ _) fun i hi => by rw [maxV_getD _ _ i hi, maxV_getD _ _ i hi, maxV_getD _ _ i hi, maxV_getD _ _ i hi]; omega
theorem maxV_eq_iff (A B : List Nat) (hA : A.length = 16) : maxV A B = A ↔ ∀ i, i < 16 → B.getD i 0 ≤ A.getD i 0 := by
  constructor
  · intro h i hi
    have := maxV_getD A B i hi
    rw [h] at this; omega
  · exact fun h => maxV_ext (maxV_length _ _) hA fun i hi => by rw [maxV_getD _ _ i hi]; have := h i hi; omega

theorem cnum_any (i : Int) (w : World) : Calls Tryd.prog 11 #[.int .i64 i] w fun e w' => e = .returned (.int .i64 i) ∧ w' = w := by
  go_enter Tryd.func11, Tryd.ntmps11
  go_wp2
  go_ret
  exact ⟨rfl, rfl⟩

theorem cmayDevice_any (s : ByteArray) (w : World) : Calls Tryd.prog 19 #[.string s] w fun e w' => e = .returned (.bool (nameB s)) ∧ w' = w := by
  go_enter Tryd.func19, Tryd.ntmps19
  go_wp2
  all_goals go_ret
  all_goals refine ⟨congrArg (fun b => Ending.returned (.bool b)) ?_, rfl⟩
  · exact name_4 (by assumption)
  · exact (name_1 (by omega)).symm

set_option maxHeartbeats 1000000 in
theorem cmay_any (V : List Nat) (w : World) (hV : V.length = 16) : Calls Tryd.prog 14 #[.agg (uqs V)] w fun e w' => e = .returned (.bool (decide (∀ n ∈ V, n ≤ top))) ∧ Grw w w' := by
  have hidx := run_index_uqs V hV
  have hB0 := Blk.new w 25 (uqs V)
  have hg0 : Grw w (w.alloc (.cells (uqs V) 25)) := (Grw.refl _).alloc _
  have hinf := uqs_info hV
  obtain ⟨pb, hpb⟩ : ∃ p, p = decide (∀ n ∈ V, n ≤ top) := ⟨_, rfl⟩
  rw [← hpb]
  have HP := Lib.hid hpb
  clear hpb
  go_enter Tryd.func14, Tryd.ntmps14
  go_wp2
  go_step3
  go_wp2
  generalize w.alloc (.cells (uqs V) 25) = w1 at hB0 hg0 ⊢
  go_step3
  go_wp2_with (refine wpList_load_row rfl 25 _ rfl w.heap.size rfl 25 (uqs V) (0, 0) _ hB0 Tryd.underlying25 rfl hinf ?_)
  go_loopw [3, 7] (fun b z wr => ∃ i : Nat, z = .int .i64 (i : Int) ∧ i ≤ 16 ∧ (∀ j, j < i → V.getD j 0 ≤ top) ∧ b = .bool true ∧ wr = w1) (fun _ z _ => 16 - (intOf z).toNat)
  case atStart => exact ⟨0, rfl, Nat.zero_le _, fun j h => absurd h (by omega), rfl, rfl⟩
  case round =>
    obtain ⟨i, rfl, hi, hok, rfl, rfl⟩ := hrel
    have HO := Lib.hid hok
    clear hok
    by_cases hlt : i < 16
    · have hx := hidx i hlt
      obtain ⟨m, hm⟩ : ∃ m, m = V.getD i 0 := ⟨_, rfl⟩
      rw [← hm] at hx
      have HM := Lib.hid hm
      have HLT := Lib.hid hlt
      have HV := Lib.hid hV
      clear hm hV hidx
      by_cases hle : (m : Int) ≤ 4611686018427387904
      · go_wp2
        refine ⟨⟨i + 1, by go_num, HLT.out, fun j hj => ?_, rfl, trivial⟩, by simp [intOf]; have := HLT.out; omega⟩
        rcases Nat.lt_or_ge j i with h | h
        · exact HO.out j h
        · obtain rfl : j = i := by omega
          rw [← HM.out]; unfold top; omega
      · go_wp2
        try rw [Exit.noGoto_ret]
        go_ret
        refine ⟨ret_bool ?_, hg0⟩
        rw [HP.out, eq_comm, decide_eq_false_iff_not]
        intro h
        have h2 := h (V.getD i 0) (by rw [List.getD_eq_getElem?_getD, List.getElem?_eq_getElem (by have := HV.out; have := HLT.out; omega)]; exact List.getElem_mem _)
        rw [← HM.out] at h2; unfold top at h2; omega
    · obtain rfl : i = 16 := by omega
      have HV := Lib.hid hV
      clear hV hidx
      go_wp2
      try rw [Exit.noGoto_ret]
      go_ret
      refine ⟨ret_bool ?_, hg0⟩
      rw [HP.out, eq_comm, decide_eq_true_iff]
      intro n hn
      obtain ⟨j, hj, rfl⟩ := List.getElem_of_mem hn
      have := HO.out j (by have := HV.out; omega)
      rwa [List.getD_eq_getElem?_getD, List.getElem?_eq_getElem hj] at this

set_option maxHeartbeats 1000000 in
/-- The greater number of each region. -/
theorem cjoin_any (A B : List Nat) (w : World) (hA : A.length = 16) (hB : B.length = 16) :
    Calls Tryd.prog 15 #[.agg (uqs A), .agg (uqs B)] w fun e w' => e = .returned (.agg (uqs (maxV A B))) ∧ Grw w w' := by
  have hidx := run_index_uqs B hB
  obtain ⟨Z, hZ⟩ : ∃ Z : Array Value, Z = #[.int .u64 0, .int .u64 0, .int .u64 0, .int .u64 0, .int .u64 0, .int .u64 0, .int .u64 0, .int .u64 0, .int .u64 0, .int .u64 0, .int .u64 0, .int .u64 0, .int .u64 0, .int .u64 0, .int .u64 0, .int .u64 0] := ⟨_, rfl⟩
  have hZs : Z.size = 16 := by rw [hZ]; rfl
  have hmx := maxV_getD A B
  have hml := maxV_length A B
  generalize maxV A B = W at hmx hml ⊢
  have s1 : (w.alloc (.cells (uqs A) 25)).heap.size = w.heap.size + 1 := by simp
  have s2 : ((w.alloc (.cells (uqs A) 25)).alloc (.cells (uqs B) 25)).heap.size = w.heap.size + 1 + 1 := by simp
  have b0 : Blk (((w.alloc (.cells (uqs A) 25)).alloc (.cells (uqs B) 25)).alloc (.cells Z 25)) w.heap.size 25 (uqs A) := ((Blk.new w _ _).alloc _).alloc _
  have b1 : Blk (((w.alloc (.cells (uqs A) 25)).alloc (.cells (uqs B) 25)).alloc (.cells Z 25)) (w.heap.size + 1) 25 (uqs B) := by
    have := (Blk.new (w.alloc (.cells (uqs A) 25)) 25 (uqs B)).alloc (.cells Z 25)
    rw [s1] at this; exact this
  have b2 : Blk (((w.alloc (.cells (uqs A) 25)).alloc (.cells (uqs B) 25)).alloc (.cells Z 25)) (w.heap.size + 2) 25 Z := by
    have := Blk.new ((w.alloc (.cells (uqs A) 25)).alloc (.cells (uqs B) 25)) 25 Z
    rw [s2] at this; exact this
  have bb : Below w.heap.size w (((w.alloc (.cells (uqs A) 25)).alloc (.cells (uqs B) 25)).alloc (.cells Z 25)) := (((Below.refl _ _).alloc (Nat.le_refl _) _).alloc (by simp) _).alloc (by simp; omega) _
  have hinfB := uqs_info hB
  go_enter Tryd.func15, Tryd.ntmps15
  rw [hZ] at b0 b1 b2 bb
  go_wp2_with (refine wpList_load_row rfl 25 _ rfl (w.heap.size + 1) rfl 25 (uqs B) (0, 0) _ b1 Tryd.underlying25 rfl hinfB ?_)
  rw [← hZ] at b0 b1 b2 bb ⊢
  clear hZ
  go_loopw [8] (fun z wr => ∃ i : Nat, z = .int .i64 (i : Int) ∧ i ≤ 16 ∧ ∃ U, Mix W A U i ∧ Blk wr w.heap.size 25 (uqs U) ∧ Blk wr (w.heap.size + 2) 25 Z ∧ Below w.heap.size w wr ∧ w.drawn ≤ wr.drawn) (fun z _ => 16 - (intOf z).toNat)
  case atStart => exact ⟨0, rfl, Nat.zero_le _, A, Mix.start hA W, b0, b2, bb, Nat.le_refl _⟩
  case round =>
    clear b0 b1 b2 bb
    obtain ⟨i, rfl, hi16, U, hU, hB0, hB2, hb, hdr⟩ := hrel
    by_cases hlt : i < 16
    · have hx := hidx i hlt
      have hU16 := hU.1
      have hUg := hU.get hlt
      rw [show at_ A ((i : Int) + 1) = A.getD i 0 by unfold at_; rw [show ((i : Int) + 1 - 1).toNat = i by omega]] at hUg
      have hc0 := hB0.cell i
      rw [uqs_get _ _ (by omega), hUg] at hc0
      have hfz := hB0.frozen i
      have hm := hmx i hlt
      have hst := hB0.set_ i (.int .u64 ((max (A.getD i 0) (B.getD i 0) : Nat) : Int))
      rw [uqs_set, ← hm] at hst
      have hnx := hU.next hlt
      generalize A.getD i 0 = x at hm hc0 hUg
      generalize B.getD i 0 = y at hm hx
      have HM := Lib.hid hm
      have HD := Lib.hid hdr
      clear hm hUg hidx hmx hdr
      go_wp2
      have e : (if x < y then (y : Int) else (x : Int)) = ((W.getD i 0 : Nat) : Int) := by
        rw [HM.out]
        split <;> omega
      rw [e]
      exact ⟨⟨i + 1, by go_num, by omega, _, hnx, hst, hB2.far (fun h => by have h2 : w.heap.size + 2 = w.heap.size := h; omega) _, Below.only hb (grown_setCell _ _ _ _) (Nat.le_refl _) hb.size, HD.out⟩, by simp [intOf]; omega⟩
    · obtain rfl : i = 16 := by omega
      have hUW := hU.last hml
      subst hUW
      have hth := hB2.there
      rw [hZs, ← hml, ← uqs_size] at hth
      have hinf := uqs_info hml
      have hone := uqs_one U
      have HD := Lib.hid hdr
      clear hidx hmx hdr
      go_wp2_with (first | (refine wpList_load_row rfl 25 _ rfl w.heap.size rfl 25 (uqs U) (0, 0) _ hB0 Tryd.underlying25 rfl hinf ?_) | (refine wpList_store_mid rfl 25 _ _ rfl (w.heap.size + 2) 0 (uqs U) rfl rfl hth hinf hone ?_))
      have hE := hB2.setRow (ds := uqs U) (by rw [uqs_size, hml, hZs])
      have hgE := grown_setCells (w.heap.size + 2) (uqs U).toList 0 wr
      have hdE : (wr.setCells (w.heap.size + 2) 0 (uqs U).toList).drawn = wr.drawn := by
        generalize (uqs U).toList = l
        generalize 0 = k
        clear hE hgE
        have : ∀ (l : List Value) (k : Nat) (W : World), (W.setCells (w.heap.size + 2) k l).drawn = W.drawn := by
          intro l
          induction l with
          | nil => intro k W; rfl
          | cons v l ih => intro k W; exact (ih (k + 1) _).trans rfl
        exact this l k wr
      exact bodyPost_ret (v := .agg (uqs U)) (results_cell_row rfl _ _ (w.heap.size + 2) 25 (uqs U) (0, 0) _ rfl hE Tryd.underlying25 rfl hinf) rfl ⟨rfl, grw_of (Below.only hb hgE (by omega) hb.size) (by rw [hdE]; exact HD.out)⟩


theorem conv_bytes (s : ByteArray) (w : World) : ∃ cB W, (convert 9 22 (.string s)).run Tryd.prog w = .ok (.slice (some ⟨w.heap.size, 0, none⟩) s.size cB) W ∧ Below w.heap.size w W ∧ w.heap.size < W.heap.size ∧ s.size ≤ cB ∧
    (∃ C fr, W.heap[w.heap.size]? = some (.cells C 5 fr) ∧ fr ≠ (0, 0) ∧ ∀ j (hj : j < s.data.toList.length), C[j]? = some (.int .u8 (s.data.toList[j].toNat : Int))) ∧ Sl W (.slice (some ⟨w.heap.size, 0, none⟩) s.size cB) s.data.toList := by
  have hr := run_bytes_of_string (P := Tryd.prog) w 9 22 5 s Tryd.underlying9 Tryd.underlying22 Tryd.underlying5
  have hsz : s.data.toList.length = s.size := by show s.data.toList.length = s.data.size; simp
  have hat : ∀ j (hj : j < s.data.toList.length), (bytesRow s (grownCap w s.size 0 5))[j]? = some (.int .u8 (s.data.toList[j].toNat : Int)) := fun j hj => by
    rw [bytesRow_at _ _ j (by omega)]
    simp
  have hh : ∀ o, (w.drew.alloc (.cells (bytesRow s (grownCap w s.size 0 5)) 5 o)).heap[w.heap.size]? = some (.cells (bytesRow s (grownCap w s.size 0 5)) 5 o) := fun o => heap_alloc_new w.drew _
  refine ⟨_, _, hr, (Below.refl _ _).drew.alloc (Nat.le_refl _) _, by simp, grownCap_ge w _ 0 _, ⟨_, _, hh _, by simp, hat⟩, ?_⟩
  refine ⟨_, _, by rw [hsz], by rw [hsz]; exact grownCap_ge w _ 0 _, fun hn => ⟨w.heap.size, 0, rfl, fun j hj => ?_⟩⟩
  rw [cell_of_row _ w.heap.size (0 + j) _ 5 _ (hh ((bytesRow s (grownCap w s.size 0 5)).size, (bytesRow s (grownCap w s.size 0 5)).size + 1)), Nat.zero_add]
  exact hat j hj


theorem beB_beN : ∀ (k : Nat) (l : List UInt8), l.length = k → beB k (beN l) = l
  | 0, l, h => by rw [List.eq_nil_of_length_eq_zero h]; rfl
  | k + 1, l, h => by
    have hne : l ≠ [] := fun e => by rw [e] at h; cases h
    have e := List.dropLast_concat_getLast hne
    rw [← e, beN_snoc, beB]
    have h2 := (l.getLast hne).toNat_lt
    rw [show (beN l.dropLast * 256 + (l.getLast hne).toNat) / 256 = beN l.dropLast by omega]
    rw [beB_beN k l.dropLast (by rw [List.length_dropLast]; omega)]
    congr 1
    congr 1
    apply UInt8.toNat_inj.1
    simp

end Go.Proofs.YthlopecllhdmhaaDoor

namespace Go.Proofs.YthlopecllhdmhaaDoor
open Go.RowKit
open CtxM
set_option linter.unusedVariables false
set_option linter.unusedSimpArgs false
set_option maxRecDepth 20000

theorem two_boxes (w : World) (t t' : TypeId) (A B : Array Value) : Blk ((w.alloc (.cells A t)).alloc (.cells B t')) w.heap.size t A ∧ Blk ((w.alloc (.cells A t)).alloc (.cells B t')) (w.heap.size + 1) t' B ∧ Grw w ((w.alloc (.cells A t)).alloc (.cells B t')) := by
  refine ⟨(Blk.new w _ _).alloc _, ?_, ((Grw.refl w).alloc _).alloc _⟩
  have := Blk.new (w.alloc (.cells A t)) t' B
  rwa [show (w.alloc (.cells A t)).heap.size = w.heap.size + 1 by simp] at this

def covB (A B : List Nat) : Bool := decide (maxV A B = A)
theorem covB_iff {A B : List Nat} (hA : A.length = 16) : covB A B = true ↔ ∀ i, i < 16 → B.getD i 0 ≤ A.getD i 0 := by
  unfold covB; rw [decide_eq_true_iff, maxV_eq_iff A B hA]
theorem covB_self {A : List Nat} (hA : A.length = 16) : covB A A = true := (covB_iff hA).2 fun _ _ => Nat.le_refl _

set_option maxHeartbeats 1000000 in
theorem ccovers_any (A B : List Nat) (w : World) (hA : A.length = 16) (hB : B.length = 16) :
    Calls Tryd.prog 17 #[.agg (uqs A), .agg (uqs B)] w fun e w' => e = .returned (.bool (covB A B)) ∧ Grw w w' := by
  have hfo : Tryd.prog.follows .mixedOrders = true := by kernel_rfl
  have hj := fun W => cjoin_any A B W hA hB
  have hm := maxV_length A B
  have he := fun W => vec_eq (maxV A B) A hm hA W
  rw [show decide (maxV A B = A) = covB A B from rfl] at he
  obtain ⟨b0, b1, hg⟩ := two_boxes w 25 25 (uqs A) (uqs B)
  obtain ⟨p, hp⟩ : ∃ p, p = covB A B := ⟨_, rfl⟩
  rw [← hp] at he ⊢
  clear hp
  go_enter Tryd.func17, Tryd.ntmps17
  go_wp2_with fail
  generalize ((w.alloc (.cells (uqs A) 25)).alloc (.cells (uqs B) 25)) = w1 at hg b0 b1 ⊢
  generalize maxV A B = M at hj he hm
  refine wp_region_quiet_grown (by assumption) (by kernel_rfl) ?_
  repeat (first | go_big_quiet_skip | (refine q_load (by rfl) 25 _ rfl w.heap.size 0 rfl (uqs A) _ b0.lt (uqs_range b0) Tryd.underlying25 rfl (uqs_info hA) ?_; try simp only [Act.put, List.setIfInBounds_toArray, List.set_cons_zero, List.set_cons_succ]) | (refine q_load (by rfl) 25 _ rfl (w.heap.size + 1) 0 rfl (uqs B) _ b1.lt (uqs_range b1) Tryd.underlying25 rfl (uqs_info hB) ?_; try simp only [Act.put, List.setIfInBounds_toArray, List.set_cons_zero, List.set_cons_succ]) | go_big_quiet_step (first | (go_at_call 15; refine Calls.grown_of (hj _))))
  refine wpQuiet_nil ?_
  rintro _ ⟨⟨nq, osq⟩, rfl⟩
  go_wp2
  go_ret
  exact ⟨rfl, hg.trans ⟨nq, osq, rfl⟩⟩

/-- The document's. -/
theorem r10may_any (V : List Nat) (w : World) (hV : V.length = 16) : Calls Tryd.prog 9 #[.agg (uqs V)] w fun e w' => e = .returned (.bool (decide (∀ n ∈ V, n ≤ top))) ∧ Grw w w' := by
  have hB0 := Blk.new w 25 (uqs V)
  have hg0 : Grw w (w.alloc (.cells (uqs V) 25)) := (Grw.refl _).alloc _
  go_enter Tryd.func9, Tryd.ntmps9
  go_upto_region 1 with fail
  change Code.wp _ _ _ _ (w.alloc (.cells (uqs V) 25))
  generalize w.alloc (.cells (uqs V) 25) = w1 at hB0 hg0 ⊢
  go_wp2_with (refine wpList_load_row rfl 25 _ rfl w.heap.size rfl 25 (uqs V) (0, 0) _ hB0 Tryd.underlying25 rfl (uqs_info hV) ?_)
  refine (rmayVector_any V _ hV).mono ?_
  rintro e w2 ⟨rfl, hg2⟩
  go_wp2
  go_ret
  exact ⟨rfl, hg0.trans hg2⟩

set_option maxHeartbeats 1000000 in
theorem rcovers_any (A B : List Nat) (w : World) (hA : A.length = 16) (hB : B.length = 16) :
    Calls Tryd.prog 18 #[.agg (uqs A), .agg (uqs B)] w fun e w' => e = .returned (.bool (covB A B)) ∧ Grw w w' := by
  have hfo : Tryd.prog.follows .mixedOrders = true := by kernel_rfl
  obtain ⟨b0, b1, hg⟩ := two_boxes w 25 25 (uqs A) (uqs B)
  have hC := covB_iff (B := B) hA
  obtain ⟨p, hp⟩ : ∃ p, p = covB A B := ⟨_, rfl⟩
  rw [← hp] at hC ⊢
  clear hp
  have HC := Lib.hid hC
  clear hC
  go_enter Tryd.func18, Tryd.ntmps18
  go_wp2_with fail
  generalize ((w.alloc (.cells (uqs A) 25)).alloc (.cells (uqs B) 25)) = w1 at hg b0 b1 ⊢
  go_loopw [5] (fun x wr => ∃ i : Nat, x = .int .i64 (i : Int) ∧ i ≤ 16 ∧ (∀ j, j < i → B.getD j 0 ≤ A.getD j 0) ∧ Grw w1 wr) (fun x _ => 16 - (intOf x).toNat)
  case atStart => exact ⟨0, rfl, Nat.zero_le _, fun j h => absurd h (by omega), Grw.refl _⟩
  case round =>
    obtain ⟨i, rfl, hi, hok, hgr⟩ := hrel
    have HO := Lib.hid hok
    clear hok
    replace b0 := b0.below hgr.below b0.lt
    replace b1 := b1.below hgr.below b1.lt
    replace hg := hg.trans hgr
    by_cases hlt : i < 16
    · have q0 : ∀ n os, (Go.Sort.grow (wr.drewN n) os).cell? ⟨w.heap.size, i, none⟩ = some (.int .u64 (A.getD i 0 : Int)) := cell_grown b0.lt (by rw [b0.cell]; exact uqs_get A i (by omega))
      have q1 : ∀ n os, (Go.Sort.grow (wr.drewN n) os).cell? ⟨w.heap.size + 1, i, none⟩ = some (.int .u64 (B.getD i 0 : Int)) := cell_grown b1.lt (by rw [b1.cell]; exact uqs_get B i (by omega))
      obtain ⟨x, hx⟩ : ∃ x, x = A.getD i 0 := ⟨_, rfl⟩
      obtain ⟨y, hy⟩ : ∃ x, x = B.getD i 0 := ⟨_, rfl⟩
      rw [← hx] at q0
      rw [← hy] at q1
      have HX := Lib.hid hx
      have HY := Lib.hid hy
      clear hx hy
      by_cases hle : (x : Int) < (y : Int)
      · go_wp2_with fail
        refine wp_region_quiet_grown (by assumption) (by kernel_rfl) ?_
        repeat (first | go_big_quiet_skip | go_big_quiet_step (fail))
        refine wpQuiet_nil ?_
        rintro _ ⟨⟨nq, osq⟩, rfl⟩
        go_wp2
        go_ret
        refine ⟨ret_bool ?_, hg.trans ⟨nq, osq, rfl⟩⟩
        have := HC.out
        rcases p with _ | _
        · rfl
        · have h2 := this.1 rfl i (by omega)
          rw [← HX.out, ← HY.out] at h2
          omega
      · have HLT := Lib.hid hlt
        go_wp2_with fail
        refine wp_region_quiet_grown (by assumption) (by kernel_rfl) ?_
        repeat (first | go_big_quiet_skip | go_big_quiet_step (fail))
        refine wpQuiet_nil ?_
        rintro _ ⟨⟨nq, osq⟩, rfl⟩
        go_wp2
        refine ⟨⟨i + 1, by go_num, HLT.out, fun j hj => ?_, hgr.trans ⟨nq, osq, rfl⟩⟩, by simp [intOf]; have := HLT.out; omega⟩
        rcases Nat.lt_or_ge j i with h | h
        · exact HO.out j h
        · obtain rfl : j = i := by omega
          rw [← HX.out, ← HY.out]; omega
    · obtain rfl : i = 16 := by omega
      go_wp2
      go_ret
      refine ⟨ret_bool ?_, hg⟩
      exact (HC.out.2 HO.out).symm
end Go.Proofs.YthlopecllhdmhaaDoor

namespace Go.Proofs.YthlopecllhdmhaaDoor
open Go.RowKit
open CtxM
set_option linter.unusedVariables false
set_option linter.unusedSimpArgs false
set_option maxRecDepth 20000

def blobB (l : List UInt8) : List UInt8 := beB 2 l.length ++ l
theorem blobB_length (l : List UInt8) : (blobB l).length = 2 + l.length := by unfold blobB; rw [List.length_append, beB_length]
/-- What a cursor's code sums. -/
def cuT (d : ByteArray) (p : List UInt8) : List UInt8 := blobB d.data.toList ++ p
theorem str_len (s : ByteArray) : s.data.toList.length = s.size := by show s.data.toList.length = s.data.size; simp
theorem name_le {s : ByteArray} (h : nameB s = true) : s.size ≤ 32 := by
  unfold nameB at h
  simp only [Bool.and_eq_true, decide_eq_true_eq] at h
  exact h.2

set_option maxHeartbeats 1600000 in
theorem codeOf_any (sv : Value) (s : List UInt8) (d : ByteArray) (vv : Value) (p : List UInt8) (w : World) (hs : Sl w sv s) (hp : Sl w vv p) (hl : s.length ≤ 1000000) (hd : d.size ≤ 60000) (hpl : p.length ≤ 100000) (hg : Gl w) :
    Calls Tryd.prog 21 #[sv, .string d, vv] w fun e w' => e = .returned (.agg (rowB (codeN s (cuT d p)))) ∧ Below w.heap.size w w' := by
  obtain ⟨A, n, c, rfl⟩ := hs.shape
  obtain ⟨A2, n2, c2, rfl⟩ := hp.shape
  have hB0 := Blk.new w 45 (rowB (List.replicate 32 0))
  have hb0 : Below w.heap.size w (w.alloc (.cells (rowB (List.replicate 32 0)) 45)) := (Below.refl _ _).alloc (Nat.le_refl _) _
  have hZ := zeros_row 32
  go_enter Tryd.func21, Tryd.ntmps21
  go_upto_region 1 with (fail)
  change Code.wp _ _ _ _ (w.alloc (.cells (rowB (List.replicate 32 0)) 45))
  have hs1 := hs.below hb0
  have hp1 := hp.below hb0
  have hg1 := hg.below hb0
  generalize w.alloc (.cells (rowB (List.replicate 32 0)) 45) = W0 at hB0 hb0 hs1 hp1 hg1 ⊢
  generalize rowB (List.replicate 32 0) = Z at hB0 hZ
  clear hs hp hg
  obtain ⟨cB, W1, hr, hb1, hlt, hcB, _, hsl⟩ := conv_bytes d W0
  go_wp2_with fail
  refine (blob_yes _ _ _ hsl (by rw [str_len]; omega)).mono ?_
  rintro e w2 ⟨v2, rfl, ho, hb2⟩
  have hb12 := hb1.trans (hb2.mono hb1.size)
  have hs2 := hs1.below hb12
  have hp2 := hp1.below hb12
  have hg2 := hg1.below hb12
  have hB2 := hB0.below hb12 hB0.lt
  have hbw2 := hb0.trans (hb12.mono hb0.size)
  have hn2 := ho.sl
  obtain ⟨A3, n3, c3, rfl⟩ := ho.shape
  clear hs1 hp1 hg1 hB0 hb0 hb1 hb2 hb12 hsl hr hlt ho
  go_upto_region 2 with fail
  have hL : Sls (w2.alloc (.cells #[.slice A3 n3 c3, .slice A2 n2 c2] 22)) (.slice (some ⟨w2.heap.size, 0, none⟩) 2 2) [blobB d.data.toList, p] := Sls.of_new w2 _ _ _ 2 rfl ⟨hn2, hp2, trivial⟩
  have hal : Below w2.heap.size w2 (w2.alloc (.cells #[.slice A3 n3 c3, .slice A2 n2 c2] 22)) := (Below.refl _ _).alloc (Nat.le_refl _) _
  have hfl : [blobB d.data.toList, p].flatten = cuT d p := by simp [cuT]
  have hfn : [blobB d.data.toList, p].flatten.length ≤ 900000 := by rw [hfl]; unfold cuT; rw [List.length_append, blobB_length, str_len]; omega
  go_wp2_with fail
  refine (code_any _ _ s _ _ (hs2.below hal) hL hl hfn (by simp) (hg2.below hal)).mono ?_
  rintro e w3 ⟨rfl, hb3⟩
  rw [hfl]
  have hB3 := (hB2.below hal hB2.lt).below hb3 (hB2.below hal hB2.lt).lt
  have hbw3 := (hbw2.trans (hal.mono hbw2.size)).trans (hb3.mono (Nat.le_trans hbw2.size hal.size))
  clear hs2 hp2 hg2 hB2 hbw2 hL hal hfl hfn hb3 hn2
  have hcl : (codeN s (cuT d p)).length = 32 := codeN_length _ _
  have hci := rowB_info hcl
  have hc1 := rowB_one (codeN s (cuT d p))
  have hcr : (rowB (codeN s (cuT d p))).size = 32 := by rw [rowB_size, hcl]
  generalize hT : rowB (codeN s (cuT d p)) = T at hci hc1 hcr ⊢
  have ET := Lib.hid hT
  clear hT hcl
  have hth : w3.there w.heap.size 0 T.size := by rw [hcr, ← hZ]; exact hB3.there
  have hgr := grown_setCells w.heap.size T.toList 0 w3
  go_wp2_with (refine wpList_store_mid rfl 45 _ _ rfl w.heap.size 0 T rfl rfl hth hci hc1 ?_)
  have hEE : Blk (w3.setCells w.heap.size 0 T.toList) w.heap.size 45 T := hB3.setRow (by rw [hcr, hZ])
  have hbE := Below.only hbw3 hgr (Nat.le_refl _) hbw3.size
  exact bodyPost_ret (v := .agg T) (results_cell_row rfl _ _ w.heap.size 45 T (0, 0) _ rfl hEE Tryd.underlying45 rfl hci) rfl ⟨by rw [ET.out], hbE⟩
end Go.Proofs.YthlopecllhdmhaaDoor

namespace Go.Proofs.YthlopecllhdmhaaDoor
open Go.RowKit
open CtxM
set_option linter.unusedVariables false
set_option linter.unusedSimpArgs false
set_option maxRecDepth 20000

theorem wpList_load_mid_g {P : Program} {ops : Array Oper} {rest : List Oper} {op : Oper} {a : Act} {w : World} {Q : Exit → Act → World → Prop} (hw : Region.wanted op (yielded ops a.tmps) = true) (ty : TypeId) (x : Operand) (ho : op.op = .load ty x)
    (b o : Nat) (hx : a.eval x = .pointer (some ⟨b, o, none⟩)) (cs : Array Value) (d : TypeDesc) (hc : w.rangeAt b o cs.toList)
    (hu : P.underlying ty = some d) (hd : d.isRow = true) (hi : (P.info? ty).map (·.size) = some cs.size)
    (h : wpList P ops Q rest (a.put op.dst (.agg cs)) w) : wpList P ops Q (op :: rest) a w :=
  BigFrame.wpList_want hw fun K hK => wp_load_mid ty x ho b o hx cs.toList d hc hu hd (by simpa using hi) (hK _ _ (by simpa using h))

theorem vec_of (V : List Nat) (hV : V.length = 16) (h : ∀ n ∈ V, n < 18446744073709551616) : Vec (uqs V) V := ⟨rfl, hV, h⟩
/-- A cursor's bytes. -/
def curB (s : List UInt8) (d : ByteArray) (V : List Nat) : List UInt8 := vecB V ++ codeN s (cuT d (vecB V))
theorem curB_length (s : List UInt8) (d : ByteArray) {V : List Nat} (hV : V.length = 16) : (curB s d V).length = 160 := by
  unfold curB; rw [List.length_append, vecB_length, codeN_length, hV]
theorem results_tmp_row {P : Program} {fn : Func} {p u : Tmp} {ty : TypeId} (h : fn.results = #[.tmp u, .cell p ty]) (tmps : Array Value) (w : World) (g : Nat) (t : TypeId) (cs : Array Value) (fr : Nat × Nat) (d : TypeDesc)
    (v : Value) (hp : tmps.getD p undef = .pointer (some ⟨g, 0, none⟩)) (hv : tmps.getD u undef = v) (hg : w.heap[g]? = some (.cells cs t fr))
    (hu : P.underlying ty = some d) (hd : (match d with | .struct _ | .array _ _ => true | _ => false) = true) (hi : (P.info? ty).map (·.size) = some cs.size) :
    (results fn tmps).run P w = .ok (.tuple #[v, .agg cs]) w := by
  rw [Array.getD_eq_getD_getElem?] at hp hv
  simp [results, h, hp, hv, asAddr, run_loadVar_row w g t ty cs fr d hg hu hd hi]

set_option maxHeartbeats 1000000 in
theorem cbytes_no (sv : Value) (d : ByteArray) (V : List Nat) (w : World) (hV : V.length = 16) (h : nameB d = false ∨ decide (∀ n ∈ V, n ≤ top) = false) :
    Calls Tryd.prog 7 #[sv, .string d, .agg (uqs V)] w fun e w' => e = .returned (.tuple #[.slice none 0 0, .int .i64 2]) ∧ Below w.heap.size w w' := by
  have hB0 := Blk.new w 25 (uqs V)
  have hg0 : Grw w (w.alloc (.cells (uqs V) 25)) := (Grw.refl _).alloc _
  have hM := cmay_any V
  cases hN : nameB d
  · go_enter Tryd.func7, Tryd.ntmps7
    go_upto_region 1 with fail
    change Code.wp _ _ _ _ (w.alloc (.cells (uqs V) 25))
    generalize w.alloc (.cells (uqs V) 25) = w1 at hB0 hg0 ⊢
    go_wp2_with (first | (go_at_call 19; refine (cmayDevice_any _ _).mono ?_; rintro e wd ⟨rfl, rfl⟩; rw [hN]))
    go_ret2
    exact ⟨rfl, hg0.below⟩
  · rw [h.resolve_left (by rw [hN]; simp)] at hM
    go_enter Tryd.func7, Tryd.ntmps7
    go_upto_region 1 with fail
    change Code.wp _ _ _ _ (w.alloc (.cells (uqs V) 25))
    generalize w.alloc (.cells (uqs V) 25) = w1 at hB0 hg0 ⊢
    go_wp2_with (first | (go_at_call 19; refine (cmayDevice_any _ _).mono ?_; rintro e wd ⟨rfl, rfl⟩; rw [hN]) | (refine wpList_load_mid_g (by rfl) 25 _ rfl w.heap.size 0 rfl (uqs V) _ (uqs_range hB0) Tryd.underlying25 rfl (uqs_info hV) ?_; try simp only [Act.put, List.setIfInBounds_toArray, List.set_cons_zero, List.set_cons_succ]) | (go_at_call 14; refine (hM _ hV).mono ?_; rintro e w2 ⟨rfl, hg2⟩))
    go_ret2
    exact ⟨rfl, (hg0.trans hg2).below⟩

set_option maxHeartbeats 1600000 in
theorem cbytes_yes (sv : Value) (s : List UInt8) (d : ByteArray) (V : List Nat) (w : World) (hs : Sl w sv s) (hl : s.length ≤ 1000000) (hV : V.length = 16) (hN : nameB d = true) (hM : decide (∀ n ∈ V, n ≤ top) = true) (hg : Gl w) :
    Calls Tryd.prog 7 #[sv, .string d, .agg (uqs V)] w fun e w' => ∃ v', e = .returned (.tuple #[v', .int .i64 0]) ∧ Own w' w.heap.size 5 v' (curB s d V) ∧ Below w.heap.size w w' := by
  have hB0 := Blk.new w 25 (uqs V)
  have hb0 : Below w.heap.size w (w.alloc (.cells (uqs V) 25)) := (Below.refl _ _).alloc (Nat.le_refl _) _
  have hMc := fun W => cmay_any V W hV
  rw [hM] at hMc
  have hd32 := name_le hN
  have hvec := vec_of V hV (fun n hn => by have := of_decide_eq_true hM n hn; unfold top at this; omega)
  clear hM
  obtain ⟨A, n, c, rfl⟩ := hs.shape
  go_enter Tryd.func7, Tryd.ntmps7
  go_upto_region 1 with fail
  change Code.wp _ _ _ _ (w.alloc (.cells (uqs V) 25))
  have hs1 := hs.below hb0
  have hg1 := hg.below hb0
  generalize w.alloc (.cells (uqs V) 25) = w1 at hB0 hb0 hs1 hg1 ⊢
  clear hs hg
  go_upto_region 3 with (first | (go_at_call 19; refine (cmayDevice_any _ _).mono ?_; rintro e wd ⟨rfl, rfl⟩; rw [hN]) | (refine wpList_load_mid_g (by rfl) 25 _ rfl w.heap.size 0 rfl (uqs V) _ (uqs_range hB0) Tryd.underlying25 rfl (uqs_info hV) ?_; try simp only [Act.put, List.setIfInBounds_toArray, List.set_cons_zero, List.set_cons_succ]) | (go_at_call 14; refine (hMc _).mono ?_; rintro e w2 ⟨rfl, hg2⟩))
  have hB2 := hB0.below hg2.below hB0.lt
  have hs2 := hs1.below hg2.below
  have hgl2 := hg1.below hg2.below
  have hb2 := hb0.trans (hg2.below.mono hb0.size)
  clear hB0 hs1 hg1 hb0 hg2 hMc
  go_upto_region 4 with (first | (refine wpList_load_mid_g (by rfl) 25 _ rfl w.heap.size 0 rfl (uqs V) _ (uqs_range hB2) Tryd.underlying25 rfl (uqs_info hV) ?_; try simp only [Act.put, List.setIfInBounds_toArray, List.set_cons_zero, List.set_cons_succ]) | (go_at_call 20; refine (vector_any _ _ _ hvec).mono ?_; rintro e w3 ⟨v3, rfl, ho3, hb3⟩))
  obtain ⟨A3, n3, c3, rfl⟩ := ho3.shape
  have hv3 := ho3.sl
  have hs3 := hs2.below hb3
  have hg3 := hgl2.below hb3
  have hb3' := hb2.trans (hb3.mono hb2.size)
  clear ho3 hs2 hgl2 hb2 hB2 hb3
  have hvl : (vecB V).length = 128 := by rw [vecB_length, hV]
  go_wp2_with fail
  refine (codeOf_any _ s d _ (vecB V) _ hs3 hv3 hl (by omega) (by omega) hg3).mono ?_
  rintro e w4 ⟨rfl, hb4⟩
  have hv4 := hv3.below hb4
  have hb4' := hb3'.trans (hb4.mono hb3'.size)
  clear hs3 hg3 hb3' hv3 hb4
  have hcl : (codeN s (cuT d (vecB V))).length = 32 := codeN_length _ _
  have HC := Lib.hid (show curB s d V = vecB V ++ codeN s (cuT d (vecB V)) from rfl)
  generalize codeN s (cuT d (vecB V)) = m at hcl HC ⊢
  have hci := rowB_info hcl
  have hc1 := rowB_one m
  have hcr : (rowB m).size = 32 := by rw [rowB_size, hcl]
  obtain ⟨hth, hI, hbI⟩ := fresh_row w4 45 (rowB m) 32 hcr
  go_upto_region 5 with (refine wpList_store_mid rfl 45 _ _ rfl w4.heap.size 0 (rowB m) rfl rfl hth hci hc1 ?_)
  change Code.wp _ _ _ _ ((w4.alloc (.cells (rowB (List.replicate 32 0)) 45)).setCells w4.heap.size 0 (rowB m).toList)
  have hv5 := hv4.below hbI
  have hb5 := hb4'.trans (hbI.mono hb4'.size)
  have hin := hI.bytes 32 32 hcl.symm (Nat.le_refl _)
  generalize (w4.alloc (.cells (rowB (List.replicate 32 0)) 45)).setCells w4.heap.size 0 (rowB m).toList = W5 at hv5 hb5 hin hI ⊢
  clear hv4 hb4' hth hbI hcr hc1 hci
  generalize w4.heap.size = a4 at hin hI ⊢
  have hL : Sls (W5.alloc (.cells #[.slice A3 n3 c3, .slice (some ⟨a4, 0, none⟩) 32 32] 22)) (.slice (some ⟨W5.heap.size, 0, none⟩) 2 2) [vecB V, m] := Sls.of_new W5 _ _ _ 2 rfl ⟨hv5, hin, trivial⟩
  have hal : Below W5.heap.size W5 (W5.alloc (.cells #[.slice A3 n3 c3, .slice (some ⟨a4, 0, none⟩) 32 32] 22)) := (Below.refl _ _).alloc (Nat.le_refl _) _
  have hfl : [vecB V, m].flatten = vecB V ++ m := by simp
  have hfn : [vecB V, m].flatten.length ≤ 1000000 := by rw [hfl, List.length_append]; omega
  go_wp2_with fail
  refine (join_any _ _ _ hL hfn (by simp)).mono ?_
  rintro e w6 ⟨v6, rfl, ho6, hb6⟩
  rw [hfl, ← HC.out] at ho6
  have hbz := hb5.trans (hal.mono hb5.size)
  have Ho := Lib.hid ho6
  clear ho6
  go_wp2
  go_ret2
  exact ⟨_, rfl, Ho.out.mono hbz.size, hbz.trans (hb6.mono hbz.size)⟩

set_option maxHeartbeats 2000000 in
/-- A cursor's two parts. -/
theorem cparts_any (bb o c : Nat) (l : List UInt8) (w : World) (hs : Sl w (.slice (some ⟨bb, o, none⟩) 160 c) l) :
    Calls Tryd.prog 27 #[.slice (some ⟨bb, o, none⟩) 160 c] w fun e w' => e = .returned (.tuple #[.slice (some ⟨bb, o, none⟩) 128 128, .agg (rowB (l.drop 128))]) ∧ Below w.heap.size w w' := by
  have hfo : Tryd.prog.follows .mixedOrders = true := by kernel_rfl
  have hl : l.length = 160 := hs.len.symm
  have hc : 160 ≤ c := by obtain ⟨A9, c9, e9, hc9, _⟩ := hs; injection e9 with e1 e2 e3; omega
  have hci : (160 : Int) ≤ (c : Int) := by omega
  have hci2 : (128 : Int) ≤ (c : Int) := by omega
  have hB1 := Blk.new w 45 (rowB (List.replicate 32 0))
  have hb1 : Below w.heap.size w (w.alloc (.cells (rowB (List.replicate 32 0)) 45)) := (Below.refl _ _).alloc (Nat.le_refl _) _
  have hs1 := hs.below hb1
  clear hs
  obtain ⟨T, hT⟩ : ∃ T, T = rowB (l.drop 128) := ⟨_, rfl⟩
  rw [← hT]
  have HT := Lib.hid hT
  clear hT
  go_enter Tryd.func27, Tryd.ntmps27
  go_upto_region 1 with fail
  change Code.wp _ _ _ _ (w.alloc (.cells (rowB (List.replicate 32 0)) 45))
  generalize w.alloc (.cells (rowB (List.replicate 32 0)) 45) = W0 at hB1 hb1 hs1 ⊢
  refine wp_region_held_drew (S := fun _ => True) hfo trivial (fun hS0 => ?_)
  have hB2 := hB1.drew
  have hs2 := hs1.drew
  have hb2 := hb1.drew
  generalize W0.drew = W1 at hB2 hs2 hb2 ⊢
  have hsT : Sl W1 (.slice (some ⟨bb, o + 128, none⟩) 32 32) (l.drop 128) := by
    have := hs2.mid 128 32 32 (by omega) (by omega)
    rwa [List.take_of_length_le (by rw [List.length_drop]; omega)] at this
  refine' wpAnyH_take (i := 0) (oi := ⟨some 4, _, _, _, _, _⟩) (v := _) rfl (by kernel_rfl) (by kernel_rfl) (by kernel_rfl) (fun _ _ _ h => h) (Or.inl ⟨by rfl, ?y0p⟩) trivial ?r0p
  case y0p => (intro w' hSw; go_simp; try rfl)
  try simp only [Act.put, List.setIfInBounds_toArray, List.set_cons_zero, List.set_cons_succ]
  refine' wpAnyH_take (i := 1) (oi := ⟨some 5, _, _, _, _, _⟩) (v := _) rfl (by kernel_rfl) (by kernel_rfl) (by kernel_rfl) (fun _ _ _ h => h) (Or.inl ⟨by rfl, ?y1p⟩) trivial ?r1p
  case y1p => (intro w' hSw; go_simp; try rfl)
  try simp only [Act.put, List.setIfInBounds_toArray, List.set_cons_zero, List.set_cons_succ]
  refine' wpAnyH_take (i := 2) (oi := ⟨some 6, _, _, _, _, _⟩) (v := _) rfl (by kernel_rfl) (by kernel_rfl) (by kernel_rfl) (fun _ _ _ h => h) (Or.inl ⟨by rfl, ?y2p⟩) trivial ?r2p
  case y2p => (intro w' hSw; go_simp; try rfl)
  try simp only [Act.put, List.setIfInBounds_toArray, List.set_cons_zero, List.set_cons_succ]
  refine held_one (i := 3) (o := ⟨some 7, _, _, _, _, _⟩) (by kernel_rfl) rfl (fun Kp hK => ?_)
  refine step_copy_splice rfl (.tmp 4) (.tmp 6) 22 22 rfl 5 Tryd.underlying22 size_u8 _ _ 32 32 _ _ rfl rfl w.heap.size 0 ((List.replicate 32 (0 : UInt8)).map bv) 45 hB2 ((l.drop 128).map bv) (by rw [List.length_map, List.length_drop, hl]; rfl) (fun hp => ⟨rfl, hsT.cells (by simpa using hp)⟩) (by simp; omega) (bv_one _) w.heap.size W1 (Below.refl _ _) (Nat.le_refl _) ?_
  intro w2 hg2 hb3
  refine hK.out _ _ trivial (fun _ => ?_)
  clear hK Kp
  try simp only [Act.put, List.setIfInBounds_toArray, List.set_cons_zero, List.set_cons_succ]
  refine wpAnyH_done (by kernel_rfl) ?_ _
  have hT32 : (l.drop 128).length = 32 := by rw [List.length_drop]; omega
  have hE : Blk w2 w.heap.size 45 (rowB (l.drop 128)) := by
    have := hg2.out
    rw [splice_zeros (l.drop 128) 32 (by omega), hT32, Nat.sub_self, List.replicate_zero, List.append_nil] at this
    exact this
  have hb4 := hb2.trans (hb3.mono (Nat.le_refl _))
  clear hg2 hB2 hs2 hb2 hb3 hsT hB1 hb1 hs1
  have hi := rowB_info hT32
  have h1 := rowB_one (l.drop 128)
  have hTs : (rowB (l.drop 128)).size = 32 := by rw [rowB_size, hT32]
  rw [← HT.out] at hE hi h1 hTs
  go_upto_region 2 with fail
  refine wp_region_held_drew (S := fun X => Blk X w.heap.size 45 T) hfo hE.drew (fun hS0 => ?_)
  have hE2 := hE.drew
  have hb5 := hb4.drew
  generalize w2.drew = W3 at hE2 hb5 hS0 ⊢
  refine' wpAnyH_take (i := 0) (oi := ⟨some 8, _, _, _, _, _⟩) (v := _) rfl (by kernel_rfl) (by kernel_rfl) (by kernel_rfl) (fun _ _ _ h => h) (Or.inl ⟨by rfl, ?y0q⟩) hS0 ?r0q
  case y0q => (intro w' hSw; go_simp; try rfl)
  try simp only [Act.put, List.setIfInBounds_toArray, List.set_cons_zero, List.set_cons_succ]
  refine' wpAnyH_take (i := 1) (oi := ⟨some 9, _, _, _, _, _⟩) (v := _) rfl (by kernel_rfl) (by kernel_rfl) (by kernel_rfl) (fun _ _ _ h => h) (Or.inl ⟨by rfl, ?y1q⟩) hS0 ?r1q
  case y1q => (intro w' hSw; go_simp; try rfl)
  try simp only [Act.put, List.setIfInBounds_toArray, List.set_cons_zero, List.set_cons_succ]
  refine' wpAnyH_take (i := 2) (oi := ⟨some 10, _, _, _, _, _⟩) (v := .agg T) rfl (by kernel_rfl) (by kernel_rfl) (by kernel_rfl) (fun _ _ _ h => h) (Or.inl ⟨by rfl, ?y2⟩) hS0 ?r2
  case y2 =>
    intro w' hSw
    have hld := run_loadAt_mid (P := Tryd.prog) w' w.heap.size 0 45 T.toList _ (fun i v hv => by rw [Nat.zero_add, hSw.cell i]; simpa using hv) Tryd.underlying45 rfl (by rw [Array.length_toList]; exact hi)
    rw [Array.toArray_toList] at hld
    exact run_exec_load _ _ _ _ rfl _ _ rfl _ hld
  try simp only [Act.put, List.setIfInBounds_toArray, List.set_cons_zero, List.set_cons_succ]
  refine' wpAnyH_take (i := 3) (oi := ⟨some 2, _, _, _, _, _⟩) (v := _) rfl (by kernel_rfl) (by kernel_rfl) (by kernel_rfl) (fun _ _ _ h => h) (Or.inl ⟨by rfl, ?y3q⟩) hS0 ?r3q
  case y3q => (intro w' hSw; go_simp; try rfl)
  try simp only [Act.put, List.setIfInBounds_toArray, List.set_cons_zero, List.set_cons_succ]
  refine held_one (i := 4) (by kernel_rfl) rfl (fun Kq hK => ?_)
  rw [if_pos (by rfl)]
  refine wp_store_mid 45 _ _ rfl w.heap.size 0 T rfl rfl (by rw [hTs, ← hTs]; exact hE2.there) hi h1 ?_
  have hE3 : Blk (W3.setCells w.heap.size 0 T.toList) w.heap.size 45 T := hE2.setRow rfl
  have hb6 := Below.only hb5 (grown_setCells w.heap.size T.toList 0 W3) (Nat.le_refl _) hb5.size
  have hS1 := hE3
  refine hK.out _ _ hS1 (fun _ => ?_)
  clear hK Kq
  try simp only [Act.put, List.setIfInBounds_toArray, List.set_cons_zero, List.set_cons_succ]
  refine wpAnyH_done (by kernel_rfl) ?_ _
  generalize W3.setCells w.heap.size 0 T.toList = W4 at hE3 hb6 ⊢
  go_wp2_with fail
  exact bodyPost_ret (v := .tuple #[.slice (some ⟨bb, o, none⟩) 128 128, .agg T]) (results_tmp_row rfl _ _ w.heap.size 45 T (0, 0) _ _ rfl rfl hE3 Tryd.underlying45 rfl hi) rfl ⟨rfl, hb6⟩
end Go.Proofs.YthlopecllhdmhaaDoor

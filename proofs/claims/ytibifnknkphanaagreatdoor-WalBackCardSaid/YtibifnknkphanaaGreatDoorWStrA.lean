/-
  (*Log).file: a segment's file; segments' function: which segment a file is.
-/
import Derived.Test.YtibifnknkphanaaGreatDoorDskBase
import Derived.Test.YtibifnknkphanaaGreatDoorHeldA
import Derived.Test.YtibifnknkphanaaGreatDoorWShelfA
import Derived.StillTailTactics
import Derived.Lib.SlicesS
import Derived.Lib.LaidTab
import Derived.Stop.LaidErr
import Derived.LaidMore
import Derived.LaidHandle
namespace Go.Proofs.YtibifnknkphanaaGreatDoor
open Go.RowKit Go.Maps Go.Sort
open DskM WalM
set_option linter.unusedVariables false
set_option linter.unusedSimpArgs false
set_option maxRecDepth 20000
attribute [local go_sem] Oper.semAt_some

/-! The library's variables, as they are laid. -/
structure Ld (w : World) : Prop where
  tab : Lib.TabIs Tryz.prog w "internal/strconv.uint64pow10" .u64 Lib.pow10Tab
  syn : ∃ tp p, w.var? Tryz.prog "strconv.ErrSyntax" = some #[.iface tp p]
  ran : ∃ tp p, w.var? Tryz.prog "strconv.ErrRange" = some #[.iface tp p]
theorem gPow : Tryz.prog.globalNamed "internal/strconv.uint64pow10" = some 0 := by kernel_rfl
theorem gSyn : Tryz.prog.globalNamed "strconv.ErrSyntax" = some 1 := by kernel_rfl
theorem gRan : Tryz.prog.globalNamed "strconv.ErrRange" = some 2 := by kernel_rfl
theorem var_at {P : Program} {w : World} {name : String} {g : Nat} {cs : Array Value} (hg : P.globalNamed name = some g) (h : w.var? P name = some cs) : g < w.heap.size := by
  unfold World.var? at h
  rw [hg] at h
  rcases Nat.lt_or_ge g w.heap.size with hlt | hge
  · exact hlt
  · simp [Array.getElem?_eq_none hge] at h
theorem var_keep {P : Program} {w w' : World} {name : String} {g : Nat} {cs : Array Value} (hg : P.globalNamed name = some g) (h : w.var? P name = some cs) (hk : w'.heap[g]? = w.heap[g]?) : w'.var? P name = some cs := by
  unfold World.var? at h ⊢
  rw [hg] at h ⊢
  simpa [hk] using h
/-- No block of S is one of the library's variables. -/
def Far (S : Nat → Prop) : Prop := ∀ i, S i → i ≠ 0 ∧ i ≠ 1 ∧ i ≠ 2
theorem Ld.keep {S : Nat → Prop} {w w' : World} (h : Ld w) (k : Keep S w w') (hS : Far S) : Ld w' := by
  obtain ⟨a, ⟨t1, p1, b⟩, ⟨t2, p2, c⟩⟩ := h
  exact ⟨var_keep gPow a (k.block _ (var_at gPow a) fun e => (hS _ e).1 rfl), ⟨t1, p1, var_keep gSyn b (k.block _ (var_at gSyn b) fun e => (hS _ e).2.1 rfl)⟩, ⟨t2, p2, var_keep gRan c (k.block _ (var_at gRan c) fun e => (hS _ e).2.2 rfl)⟩⟩
theorem Ld.below {w w' : World} (h : Ld w) (hb : Below w.heap.size w w') : Ld w' := h.keep (S := fun _ => False) (Keep.of_below hb) (fun _ h => h.elim)
/-- Blocks that are made behind the variables are far from them. -/
theorem Ld.far {w : World} (h : Ld w) {S : Nat → Prop} (hS : ∀ i, S i → w.heap.size ≤ i) : Far S := by
  obtain ⟨a, ⟨t1, p1, b⟩, ⟨t2, p2, c⟩⟩ := h
  have h1 := var_at gPow a
  have h2 := var_at gSyn b
  have h3 := var_at gRan c
  intro i hi
  have := hS i hi
  exact ⟨by omega, by omega, by omega⟩
theorem below_grow (w : World) (k : Nat) (os : Array Obj) : Below w.heap.size w (Go.Sort.grow (w.drewN k) os) :=
  ⟨rfl, rfl, rfl, by rw [Go.Sort.size_grow]; exact Nat.le_add_right _ _, fun j hj => Go.Sort.heap_grow_old _ os hj⟩
theorem itoa_any (n : Nat) (hn : n ≤ 9223372036854775807) (w : World) (h : Ld w) :
    Calls Tryz.prog 107 #[.int .i64 (n : Int)] w fun e w' => e = .returned (.string ⟨(Lib.decDigits n).toArray⟩) ∧ Below w.heap.size w w' := by
  refine (Tryz.strconv_Itoa (n : Int) (by omega) (by omega) w h.tab).mono ?_
  rintro e w' ⟨rfl, k, os, rfl⟩
  rw [itoa_nat]
  exact ⟨rfl, below_grow w k os⟩
def segS (s : ByteArray) (n : Nat) : ByteArray := ⟨(seg s.data.toList n).toArray⟩
theorem segS_def (s : ByteArray) (n : Nat) : s ++ ⟨#[46]⟩ ++ ⟨(Lib.decDigits n).toArray⟩ = segS s n := by
  apply ByteArray.ext
  apply Array.ext'
  simp [segS, seg, ByteArray.data_append]
theorem file_any (g : Nat) (s : ByteArray) (n : Nat) (hn : n ≤ 9223372036854775807) (hsz : s.size ≤ 1000000) (w : World) (hc : w.cell? ⟨g, 1, none⟩ = some (.string s)) (h : Ld w) :
    Calls Tryz.prog 60 #[.pointer (some ⟨g, 0, none⟩), .int .i64 (n : Int)] w fun e w' => e = .returned (.string (segS s n)) ∧ Below w.heap.size w w' := by
  have hfo : Tryz.prog.follows .mixedOrders = true := by kernel_rfl
  have HI := Lib.hid (fun W (k : Keep (fun _ => False) w W) => itoa_any n hn W (h.keep k (fun _ h => h.elim)))
  have HC := Lib.hid (fun W (k : Keep (fun _ => False) w W) => k.cell hc (fun h => h.elim))
  clear h hc
  have n1 : ¬ (9223372036854775807 < s.size + 1) := by omega
  have n2 : ¬ (9223372036854775807 < s.size + 1 + (Lib.decDigits n).length) := by
    have h1 := dec_len 18 n (by omega)
    omega
  go_enter Tryz.func60, Tryz.ntmps60
  go_wp2_with fail
  have HB := Lib.hid (show ∀ X, Keep (fun _ => False) w.drew X → Keep (fun _ => False) w X from fun X hX => (Keep.of_below ((Below.refl _ _).drew)).trans hX (fun _ h => h) (fun _ _ h => h))
  refine wp_region_held_drew (S := fun X => Keep (fun _ => False) w.drew X) hfo (Keep.refl _ _) (fun hS0 => ?_)
  generalize w.drew = Z0 at hS0 HB ⊢
  refine' wpAnyH_take (i := 0) (oi := ⟨some 5, _, _, _, _, _⟩) (v := _) rfl (by kernel_rfl) (by kernel_rfl) (by kernel_rfl) (fun _ _ _ h => h) (Or.inl ⟨by rfl, ?y0⟩) hS0 ?r0
  case y0 => (intro w' hSw; have c0 := HC.out w' (HB.out w' hSw); go_simp; (try rw [if_neg n1]); (try rw [if_neg n2]); try rfl)
  try simp only [Act.put, List.setIfInBounds_toArray, List.set_cons_zero, List.set_cons_succ]
  refine' wpAnyH_take (i := 1) (oi := ⟨some 6, _, _, _, _, _⟩) (v := _) rfl (by kernel_rfl) (by kernel_rfl) (by kernel_rfl) (fun _ _ _ h => h) (Or.inl ⟨by rfl, ?y1⟩) hS0 ?r1
  case y1 => (intro w' hSw; have c0 := HC.out w' (HB.out w' hSw); go_simp; (try rw [if_neg n1]); (try rw [if_neg n2]); try rfl)
  try simp only [Act.put, List.setIfInBounds_toArray, List.set_cons_zero, List.set_cons_succ]
  refine' wpAnyH_take (i := 2) (oi := ⟨some 7, _, _, _, _, _⟩) (v := _) rfl (by kernel_rfl) (by kernel_rfl) (by kernel_rfl) (fun _ _ _ h => h) (Or.inl ⟨by rfl, ?y2⟩) hS0 ?r2
  case y2 => (intro w' hSw; have c0 := HC.out w' (HB.out w' hSw); go_simp; (try rw [if_neg n1]); (try rw [if_neg n2]); try rfl)
  try simp only [Act.put, List.setIfInBounds_toArray, List.set_cons_zero, List.set_cons_succ]
  refine' wpAnyH_take (i := 3) (oi := ⟨some 8, _, _, _, _, _⟩) (v := _) rfl (by kernel_rfl) (by kernel_rfl) (by kernel_rfl) (fun _ _ _ h => h) (Or.inl ⟨by rfl, ?y3⟩) hS0 ?r3
  case y3 => (intro w' hSw; have c0 := HC.out w' (HB.out w' hSw); go_simp; (try rw [if_neg n1]); (try rw [if_neg n2]); try rfl)
  try simp only [Act.put, List.setIfInBounds_toArray, List.set_cons_zero, List.set_cons_succ]
  refine' wpAnyH_take (i := 4) (oi := ⟨some 9, _, _, _, _, _⟩) (v := _) rfl (by kernel_rfl) (by kernel_rfl) (by kernel_rfl) (fun _ _ _ h => h) (Or.inl ⟨by rfl, ?y4⟩) hS0 ?r4
  case y4 => (intro w' hSw; have c0 := HC.out w' (HB.out w' hSw); go_simp; (try rw [if_neg n1]); (try rw [if_neg n2]); try rfl)
  try simp only [Act.put, List.setIfInBounds_toArray, List.set_cons_zero, List.set_cons_succ]
  refine' wpAnyH_take (i := 5) (oi := ⟨some 10, _, _, _, _, _⟩) (v := _) rfl (by kernel_rfl) (by kernel_rfl) (by kernel_rfl) (fun _ _ _ h => h) (Or.inl ⟨by rfl, ?y5⟩) hS0 ?r5
  case y5 => (intro w' hSw; have c0 := HC.out w' (HB.out w' hSw); go_simp; (try rw [if_neg n1]); (try rw [if_neg n2]); try rfl)
  try simp only [Act.put, List.setIfInBounds_toArray, List.set_cons_zero, List.set_cons_succ]
  refine held_one (i := 6) (by kernel_rfl) rfl (fun K hK => ?_)
  go_simp
  refine (HI.out _ (HB.out _ hS0)).mono ?_
  rintro e Z1 ⟨rfl, hz⟩
  have hS1 := hS0.trans (Keep.of_below hz) (fun _ h => h) (fun _ _ h => h)
  refine hK.out _ _ hS1 (fun _ => ?_)
  clear hK K
  try simp only [Act.put, List.setIfInBounds_toArray, List.set_cons_zero, List.set_cons_succ]
  refine' wpAnyH_take (i := 7) (oi := ⟨some 12, _, _, _, _, _⟩) (v := _) rfl (by kernel_rfl) (by kernel_rfl) (by kernel_rfl) (fun _ _ _ h => h) (Or.inl ⟨by rfl, ?y7⟩) hS1 ?r7
  case y7 => (intro w' hSw; have c0 := HC.out w' (HB.out w' hSw); go_simp; (try rw [if_neg n1]); (try rw [if_neg n2]); try rfl)
  try simp only [Act.put, List.setIfInBounds_toArray, List.set_cons_zero, List.set_cons_succ]
  refine' wpAnyH_take (i := 8) (oi := ⟨some 4, _, _, _, _, _⟩) (v := _) rfl (by kernel_rfl) (by kernel_rfl) (by kernel_rfl) (fun _ _ _ h => h) (Or.inl ⟨by rfl, ?y8⟩) hS1 ?r8
  case y8 => (intro w' hSw; have c0 := HC.out w' (HB.out w' hSw); go_simp; (try rw [if_neg n1]); (try rw [if_neg n2]); try rfl)
  try simp only [Act.put, List.setIfInBounds_toArray, List.set_cons_zero, List.set_cons_succ]
  refine wpAnyH_done (by kernel_rfl) ?_ _
  have HE := Lib.hid (HB.out _ hS1)
  clear HB HI HC
  go_wp2
  go_ret
  refine ⟨?_, ⟨HE.out.os, HE.out.tape, HE.out.output, HE.out.size, fun k hk => HE.out.block k hk (fun h => h)⟩⟩
  rw [← segS_def]
  rfl
theorem bytesWorld_below' (w : World) (t : TypeId) (s : ByteArray) : Below w.heap.size w (Lib.bytesWorld w t s) := Lib.bytesWorld_below _ _ _
theorem atoi_any (s : ByteArray) (hs : s.size ≤ 1000000) (w : World) (h : Ld w) :
    Calls Tryz.prog 144 #[.string s] w fun e w' => ∃ x, e = .returned (.tuple #[.int .i64 (atoiV s.data.toList), x]) ∧ Below w.heap.size w w' := by
  unfold atoiV
  cases ha : Lib.atoiAll s.data.toList
  · refine (Tryz.strconv_Atoi_ok s (by omega) _ ha w).mono ?_
    rintro e w' ⟨rfl, hw⟩
    refine ⟨_, rfl, ?_⟩
    rcases hw with rfl | ⟨t, rfl⟩
    · exact Below.refl _ _
    · exact Lib.bytesWorld_below _ _ _
  · obtain ⟨tp, p, hv⟩ := h.syn
    refine (Tryz.strconv_Atoi_syn_var s (by omega) ⟨fun v e => (by rw [ha] at e; cases e), fun e => (by rw [ha] at e; cases e)⟩ tp p w hv).mono ?_
    rintro e w' ⟨N, rfl, _, _, hb⟩
    exact ⟨_, rfl, hb⟩
  · obtain ⟨tp, p, hv⟩ := h.ran
    refine (Tryz.strconv_Atoi_range_var s (by omega) ha tp p w hv).mono ?_
    rintro e w' ⟨N, rfl, _, _, hb⟩
    exact ⟨_, rfl, hb⟩
theorem seg1_any (s f : ByteArray) (c1 c2 g : Nat) (hsz : s.size ≤ 1000000) (hf : f.size ≤ 1000000) (w : World) (h1 : w.cell? ⟨c1, 0, none⟩ = some (.string (s ++ ⟨#[46]⟩))) (h2 : w.cell? ⟨c2, 0, none⟩ = some (.pointer (some ⟨g, 0, none⟩)))
    (hc : w.cell? ⟨g, 1, none⟩ = some (.string s)) (h : Ld w) :
    Calls Tryz.prog 143 #[.string f, .pointer (some ⟨c1, 0, none⟩), .pointer (some ⟨c2, 0, none⟩)] w fun e w' => ∃ k : Int, e = .returned (.tuple #[.int .i64 k, .bool (decide (1 ≤ numP s.data.toList f.data.toList))]) ∧ (1 ≤ numP s.data.toList f.data.toList → k = (numP s.data.toList f.data.toList : Int)) ∧ Below w.heap.size w w' := by
  have hTR := Lib.hid (fun W => Tryz.strings_TrimPrefix f (s ++ ⟨#[46]⟩) W)
  obtain ⟨tr, htr⟩ : ∃ tr : ByteArray, tr = ⟨(Lib.trimPrefix f.data.toList (s ++ ⟨#[46]⟩ : ByteArray).data.toList).toArray⟩ := ⟨_, rfl⟩
  have htl : tr.data.toList = Lib.trimPrefix f.data.toList (s.data.toList ++ [46]) := by rw [htr]; simp [ByteArray.data_append]
  have htz : tr.size ≤ 1000000 := by
    have e1 : tr.size = tr.data.toList.length := by rw [Array.length_toList]; rfl
    have e2 : f.size = f.data.toList.length := by rw [Array.length_toList]; rfl
    rw [e1, htl]
    unfold Lib.trimPrefix
    split
    · rw [List.length_drop]; omega
    · omega
  rw [← htr] at hTR
  have HA := Lib.hid (atoi_any tr htz w h)
  have hK : numK s.data.toList f.data.toList = atoiV tr.data.toList := by unfold numK; rw [htl]
  have hP : numP s.data.toList f.data.toList = if 1 ≤ atoiV tr.data.toList ∧ atoiV tr.data.toList ≤ 2147483647 ∧ f.data.toList = seg s.data.toList (atoiV tr.data.toList).toNat then (atoiV tr.data.toList).toNat else 0 := by unfold numP; rw [hK]
  generalize numP s.data.toList f.data.toList = M at hP ⊢
  clear hK htl htz htr
  generalize atoiV tr.data.toList = K at HA hP ⊢
  have HM := Lib.hid hP
  clear hP
  have HF := Lib.hid (fun W (hb : Below w.heap.size w W) (n : Nat) (hn : n ≤ 2147483647) => file_any g s n (by omega) hsz W ((Keep.of_below (S := fun _ => False) hb).cell hc (fun h => h)) (h.below hb))
  have H2 := Lib.hid (fun W (hb : Below w.heap.size w W) => (Keep.of_below (S := fun _ => False) hb).cell h2 (fun h => h))
  clear h hc h2
  go_enter Tryz.func143, Tryz.ntmps143
  go_wp2_with fail
  refine (hTR.out _).mono ?_
  rintro e wx ⟨rfl, hwx⟩
  rw [hwx]
  clear hwx wx
  go_wp2_with fail
  refine HA.out.mono ?_
  rintro e w1 ⟨x, rfl, hb1⟩
  have HB1 := Lib.hid hb1
  have c2' := H2.out w1 hb1
  clear hb1 HA hTR
  by_cases hk1 : 1 ≤ K
  · by_cases hk2 : K ≤ 2147483647
    · have hd1 : decide (1 ≤ K) = true := decide_eq_true hk1
      have hd2 : decide (K ≤ 2147483647) = true := decide_eq_true hk2
      obtain ⟨n, rfl⟩ : ∃ n : Nat, K = (n : Int) := ⟨K.toNat, by omega⟩
      go_wp2_with fail
      refine (HF.out w1 HB1.out n (by omega)).mono ?_
      rintro e w2 ⟨rfl, hb2⟩
      have HB2 := Lib.hid (HB1.out.trans (hb2.mono HB1.out.size))
      clear hb2 HB1 HF H2
      go_wp2
      go_ret2
      have hm := HM.out
      have e3 : (n : Int).toNat = n := by omega
      rw [e3] at hm
      by_cases he : f = segS s n
      · have he' : f.data.toList = seg s.data.toList n := by rw [he]; simp [segS]
        rw [if_pos ⟨hk1, hk2, he'⟩] at hm
        refine ⟨(n : Int), ?_, fun _ => by rw [hm], HB2.out⟩
        have e5 : (f.toList == (segS s n).toList) = decide (1 ≤ M) := by
          rw [(Lib.bytes_beq_iff _ _).2 he, hm]
          exact (decide_eq_true (by omega)).symm
        rw [← e5]
        rfl
      · have he' : ¬ f.data.toList = seg s.data.toList n := fun e => he (by
          apply ByteArray.ext; apply Array.ext'; rw [e]; simp [segS])
        rw [if_neg (fun h => he' h.2.2)] at hm
        refine ⟨(n : Int), ?_, fun (h : 1 ≤ M) => by omega, HB2.out⟩
        have e5 : (f.toList == (segS s n).toList) = decide (1 ≤ M) := by
          rw [(Lib.bytes_beq_false_iff _ _).2 he, hm]
          rfl
        rw [← e5]
        rfl
    · have hd1 : decide (1 ≤ K) = true := decide_eq_true hk1
      have hd2 : decide (K ≤ 2147483647) = false := decide_eq_false hk2
      go_wp2
      go_ret2
      have hm := HM.out
      rw [if_neg (fun h => absurd h.2.1 (by omega))] at hm
      refine ⟨K, ?_, fun (h : 1 ≤ M) => by omega, HB1.out⟩
      rw [hm]
      rfl
  · have hd1 : decide (1 ≤ K) = false := decide_eq_false hk1
    go_wp2
    go_ret2
    have hm := HM.out
    rw [if_neg (fun h => absurd h.1 (by omega))] at hm
    refine ⟨K, ?_, fun (h : 1 ≤ M) => by omega, HB1.out⟩
    rw [hm]
    rfl
end Go.Proofs.YtibifnknkphanaaGreatDoor

/-
  What the rows' condition gives: strconv's table and errors lie where the program lays them.
-/
namespace Go.Proofs.YtibifnknkphanaaGreatDoor
open Go.RowKit
set_option linter.unusedVariables false

theorem tPow : (Tryz.prog.globals[0]?).map (·.type) = some 221 := by kernel_rfl
theorem tSyn : (Tryz.prog.globals[1]?).map (·.type) = some 180 := by kernel_rfl
theorem tRan : (Tryz.prog.globals[2]?).map (·.type) = some 180 := by kernel_rfl
theorem starErr : "*" ++ "errors.errorString" = "*errors.errorString" := by decide
theorem rowErr (u : TypeId) (h : Tryz.prog.typeName? 3 u = some "*errors.errorString") : u = 234 :=
  typeName_ptr_named (nm := "errors.errorString") (by rw [starErr]; kernel_rfl) (by kernel_rfl) (by decide) u (by rw [starErr]; exact h)
def laid5 : List (String × DataW Unit) := [("math/bits.deBruijn32tab", Rows.laid_math_bits_deBruijn32tab), ("math/bits.deBruijn64tab", Rows.laid_math_bits_deBruijn64tab), ("internal/strconv.uint64pow10", Rows.laid_internal_strconv_uint64pow10), ("strconv.ErrRange", Rows.laid_strconv_ErrRange), ("strconv.ErrSyntax", Rows.laid_strconv_ErrSyntax)]
theorem laid5_is : laid5 = [("math/bits.deBruijn32tab", Rows.laid_math_bits_deBruijn32tab), ("math/bits.deBruijn64tab", Rows.laid_math_bits_deBruijn64tab), ("internal/strconv.uint64pow10", Lib.tabData .u64 Lib.pow10Tab), ("strconv.ErrRange", .iface "*errors.errorString" (.ptr (.agg [.lit (.string [118, 97, 108, 117, 101, 32, 111, 117, 116, 32, 111, 102, 32, 114, 97, 110, 103, 101])]))), ("strconv.ErrSyntax", .iface "*errors.errorString" (.ptr (.agg [.lit (.string [105, 110, 118, 97, 108, 105, 100, 32, 115, 121, 110, 116, 97, 120])])))] := by kernel_rfl
theorem ld_of_laid {W : World} (h : laidMetH Tryz.prog laid5 W) : Ld W := by
  rw [MakeChecks.laidMetH_plain _ _ _ (by kernel_rfl), laid5_is] at h
  have h2 := h.tail.tail
  have h0 := Lib.tabIs_of_head gPow tPow Tryz.underlying221 Tryz.underlying86 (by kernel_rfl) (by kernel_rfl) h2
  obtain ⟨a1, s1, hv1, _⟩ := laid_sentinel h2.tail gRan tRan Tryz.underlying180 rowErr Tryz.underlying234 Tryz.underlying236 rfl rfl Tryz.underlying9 (by kernel_rfl) (by kernel_rfl)
  obtain ⟨a2, s2, hv2, _⟩ := laid_sentinel h2.tail.tail gSyn tSyn Tryz.underlying180 rowErr Tryz.underlying234 Tryz.underlying236 rfl rfl Tryz.underlying9 (by kernel_rfl) (by kernel_rfl)
  exact ⟨h0, ⟨_, _, hv2⟩, ⟨_, _, hv1⟩⟩
theorem door_met5 (os : Os) (args : Array Value) : laidMetH Tryz.prog laid5 ((World.doorLaid Tryz.prog 400 os).forCall (fun _ _ => 0) ⟨#[], args, []⟩).memory :=
  laidMetH_of_parts3 (fuel := 8) (laidMet_of_run' 8 (by kernel_rfl) (by kernel_rfl)) (by kernel_rfl) (by kernel_rfl)
end Go.Proofs.YtibifnknkphanaaGreatDoor

/-
  All of Add; the walks of New, Vector, slices.Clone, Extra, Next.
-/
import Derived.Test.YtoglhpcboonpeaaCtxAddI
import Derived.Lib.SliceRun
namespace Go.Proofs.Ytoglhpcboonpeaa
open Go.RowKit
open CtxM
set_option linter.unusedVariables false
set_option linter.unusedSimpArgs false
set_option maxRecDepth 20000

def addS (S : List Nat × List Dt) (d : Dt) : List Nat × List Dt := if May d then addF S d else S
theorem Added.same {w w' : World} {g : Nat} {v : Value} {V : List Nat} {X : List Dt} (hc : Cx w g v V X) (h : Grw w w') : Added w w' g v (V, X) :=
  ⟨v, hc.below h.below, .of_below h.below, fun i hi => .inl hi⟩
theorem add_any (g : Nat) (v : Value) (V : List Nat) (X : List Dt) (d : Dt) (w : World) (hc : Cx w g v V X) (hl : X.length < 4096) :
    Calls Try.prog 11 #[.pointer (some ⟨g, 0, none⟩), .agg #[.int .i64 d.1, .int .u64 (d.2 : Int)]] w fun e w' =>
      e = .returned (.tuple #[.bool (decide (May d ∧ ¬ In V X d)), .int .i64 (if May d then 0 else 2)]) ∧ Added w w' g v (addS (V, X) d) := by
  unfold addS
  by_cases hM : May d
  · rw [if_pos hM, if_pos hM]
    by_cases hI : In V X d
    · refine (add_old g v V X d w hc hM hI (by omega)).mono ?_
      rintro e w' ⟨rfl, hg⟩
      refine ⟨by simp [hI], ?_⟩
      rw [show addF (V, X) d = (V, X) by unfold addF; rw [if_pos hI]]
      exact .same hc hg
    · by_cases he : d.2 = at_ V d.1 + 1
      · refine (add_next g v V X d w hc hM he (by omega)).mono ?_
        rintro e w' ⟨rfl, ha⟩
        exact ⟨by simp [hI, hM], ha⟩
      · refine (add_ins g v V X d w hc hM hI he hl).mono ?_
        rintro e w' ⟨rfl, ha⟩
        exact ⟨by simp [hI, hM], ha⟩
  · rw [if_neg hM, if_neg hM]
    refine (add_bad g v V X d w hc hM).mono ?_
    rintro e w' ⟨rfl, hg⟩
    exact ⟨by simp [hM], .same hc hg⟩

theorem new_any (w : World) : Calls Try.prog 10 #[] w fun e w' => e = .returned (.pointer (some ⟨w.heap.size, 0, none⟩)) ∧ Cx w' w.heap.size (.slice none 0 0) zeros [] ∧ Below w.heap.size w w' := by
  go_enter Try.func10, Try.ntmps10
  go_wp2
  go_ret
  exact ⟨rfl, ⟨Blk.new w _ _, OwnD.nil, by simp [Value.ownBlock], fit_zero⟩, (Below.refl _ _).alloc (Nat.le_refl _) _⟩

set_option maxHeartbeats 1000000 in
theorem vector_any (g : Nat) (v : Value) (V : List Nat) (X : List Dt) (w : World) (hc : Cx w g v V X) :
    Calls Try.prog 33 #[.pointer (some ⟨g, 0, none⟩)] w fun e w' => e = .returned (.agg (uqs V)) ∧ Below w.heap.size w w' := by
  obtain ⟨Z, hZ⟩ : ∃ Z : Array Value, Z = #[.int .u64 0, .int .u64 0, .int .u64 0, .int .u64 0, .int .u64 0, .int .u64 0, .int .u64 0, .int .u64 0, .int .u64 0, .int .u64 0, .int .u64 0, .int .u64 0, .int .u64 0, .int .u64 0, .int .u64 0, .int .u64 0] := ⟨_, rfl⟩
  have hZs : Z.size = 16 := by rw [hZ]; rfl
  have hn := none_at g true (w.alloc (.cells Z 52)) (hc.below ((Below.refl _ _).alloc (Nat.le_refl _) _)).made
  have hc1 := hc.below ((Below.refl w.heap.size w).alloc (Nat.le_refl _) (.cells Z 52))
  have hb1 : Below w.heap.size w (w.alloc (.cells Z 52)) := (Below.refl w.heap.size w).alloc (Nat.le_refl _) (.cells Z 52)
  have hB1 := Blk.new w 52 Z
  go_enter Try.func33, Try.ntmps33
  go_wp2_with fail
  rw [← hZ]
  clear hZ
  refine hn.mono ?_
  rintro e w1 ⟨rfl, rfl⟩
  generalize w.alloc (.cells Z 52) = W at hc1 hb1 hB1 ⊢
  have hV := hc.fit.len
  have hcv := hc1.range
  have hinf := uqs_info hV
  have hone := uqs_one V
  have hth := hB1.there
  rw [hZs, ← hV, ← uqs_size] at hth
  clear hn
  go_wp2_with (first | (refine wpList_load_mid rfl 52 _ rfl g 1 rfl (V.map uq) _ hcv Try.underlying52 rfl (by rw [info_vec, List.length_map, hV]) ?_) | (refine wpList_store_mid rfl 52 _ _ rfl w.heap.size 0 (uqs V) rfl rfl hth hinf hone ?_))
  have hE := hB1.setRow (ds := uqs V) (by rw [uqs_size, hV, hZs])
  have hgE := grown_setCells w.heap.size (uqs V).toList 0 W
  exact bodyPost_ret (v := .agg (uqs V)) (results_cell_row rfl _ _ w.heap.size 52 (uqs V) (0, 0) _ rfl hE Try.underlying52 rfl hinf) rfl ⟨rfl, Below.only hb1 hgE (Nat.le_refl _) hb1.size⟩

set_option maxHeartbeats 1000000 in
theorem clone_any (v : Value) (X : List Dt) (w : World) (ho : OwnD w 0 v X) (hl : X.length ≤ 100000) :
    Calls Try.prog 48 #[v] w fun e w' => ∃ v', e = .returned v' ∧ OwnD w' w.heap.size v' X ∧ Below w.heap.size w w' := by
  obtain ⟨i0, hi, hz0, hz1, hz2⟩ := info_parts info_dot
  have heq := fun (w : World) (a : Option Addr) (n c : Nat) => Lib.run_eql_slice_nil (P := Try.prog) w 22 35 a n c 0 0 Try.underlying22
  rcases ho.2 with ⟨rfl, h0⟩ | ⟨g, cap, cur, rfl, _⟩
  · obtain rfl : X = [] := List.eq_nil_of_length_eq_zero h0
    go_enter Try.func48, Try.ntmps48
    go_wp2
    go_ret
    exact ⟨_, rfl, OwnD.nil, Below.refl _ _⟩
  · have hs : Sd (w.alloc (.cells #[] 35)) (.slice (some ⟨g, 0, none⟩) X.length cap) X := ho.sd.alloc _
    have hb : Below w.heap.size w (w.alloc (.cells #[] 35)) := (Below.refl _ _).alloc (Nat.le_refl _) _
    have ho1 : OwnD (w.alloc (.cells #[] 35)) w.heap.size (.slice (some ⟨w.heap.size, 0, none⟩) 0 0) [] := World.ownsRow_made w #[] 0 (Nat.le_refl _) (Nat.zero_le _) rfl
    have hlen : ([] : List Dt).length + X.length ≤ 1000000 := by simp; omega
    go_enter Try.func48, Try.ntmps48
    go_wp2_with (refine wpList_append_dots _ rfl (.tmp 5) (.tmp 6) 22 rfl w.heap.size i0 Try.underlying22 hi hz0 hz1 hz2 (.slice (some ⟨w.heap.size, 0, none⟩) 0 0) [] rfl ho1 _ X rfl hs hlen hb.size ?_; intro v' w2 ho2 hgr _ hnw)
    go_ret
    exact ⟨_, rfl, ho2, ho1.grown hgr hb (Nat.le_refl _) hb.size⟩
theorem extra_any (g : Nat) (v : Value) (V : List Nat) (X : List Dt) (w : World) (hc : Cx w g v V X) (hl : X.length ≤ 100000) :
    Calls Try.prog 34 #[.pointer (some ⟨g, 0, none⟩)] w fun e w' => ∃ v', e = .returned v' ∧ OwnD w' w.heap.size v' X ∧ Below w.heap.size w w' := by
  have hn := none_at g true w hc.made
  have hcl := clone_any v X w hc.row hl
  have hx := hc.extra
  obtain ⟨A, c, rfl, _⟩ := hc.row.sd
  clear hc
  go_enter Try.func34, Try.ntmps34
  go_wp2_with (first | (go_at_call 35; refine hn.mono ?_; rintro e w' ⟨rfl, rfl⟩) | (go_at_call 48; refine hcl.mono ?_; rintro e w' ⟨v', rfl, ho, hb⟩))
  go_ret
  exact ⟨_, rfl, ho, hb⟩

theorem posA (n : Nat) : (0 : Int) < (n : Int) + 1 := by omega
/-- The greatest count of a region. -/
def lastF (V : List Nat) (X : List Dt) (r : Int) : Nat := match (X.filter fun d => decide (d.1 = r)).getLast? with
  | some d => d.2
  | none => at_ V r
def nextN (n : Nat) : Int := if n = top then 0 else (n : Int) + 1
def nextE (n : Nat) : Int := if n = top then 5 else 0
theorem next_bad (g : Nat) (v : Value) (V : List Nat) (X : List Dt) (r : Int) (w : World) (hc : Cx w g v V X) (hr : ¬ (1 ≤ r ∧ r ≤ 16)) :
    Calls Try.prog 20 #[.pointer (some ⟨g, 0, none⟩), .int .i64 r] w fun e w' => e = .returned (.tuple #[.int .u64 0, .int .i64 2]) ∧ w' = w := by
  have hn := none_at g true w hc.made
  have hi := isRegion_any r w
  rw [show isR r = false by rw [isR, decide_eq_false_iff_not]; exact hr] at hi
  clear hc hr
  go_enter Try.func20, Try.ntmps20
  go_wp2_with (first | (go_at_call 35; refine hn.mono ?_; rintro e w' ⟨rfl, rfl⟩) | (go_at_call 39; refine hi.mono ?_; rintro e w' ⟨rfl, rfl⟩))
  go_ret2
  exact ⟨rfl, rfl⟩

set_option maxHeartbeats 1000000 in
theorem next_any (g : Nat) (v : Value) (V : List Nat) (X : List Dt) (k : Nat) (w : World) (hc : Cx w g v V X) (hk : k < 16) (hl : X.length ≤ 100000) :
    Calls Try.prog 20 #[.pointer (some ⟨g, 0, none⟩), .int .i64 ((k : Int) + 1)] w fun e w' => e = .returned (.tuple #[.int .u64 (nextN (lastF V X ((k : Int) + 1))), .int .i64 (nextE (lastF V X ((k : Int) + 1)))]) ∧ Grw w w' := by
  have hn := none_at g true w hc.made
  have hi := isRegion_any ((k : Int) + 1) w
  rw [show isR ((k : Int) + 1) = true by rw [isR, decide_eq_true_iff]; omega] at hi
  have hof := ofRegion_any v X ((k : Int) + 1) w hc.row.sd hl hc.fit.rise (by omega) (by omega)
  have hx := hc.extra
  have hv := hc.atk k hk
  have hat := at_le hc.fit.le ((k : Int) + 1)
  have hmay := fun d (hd : d ∈ X.filter fun d => decide (d.1 = (k : Int) + 1)) => hc.fit.may d (List.mem_filter.1 hd).1
  have HL := Lib.hid (show lastF V X ((k : Int) + 1) = match (X.filter fun d => decide (d.1 = (k : Int) + 1)).getLast? with | some d => d.2 | none => at_ V ((k : Int) + 1) from rfl)
  have hsd := hc.row.sd
  have hLl0 := List.length_filter_le (fun d : Dt => decide (d.1 = (k : Int) + 1)) X
  obtain ⟨A, c, rfl, _⟩ := hc.row.sd
  generalize lastF V X ((k : Int) + 1) = n at HL ⊢
  generalize at_ V ((k : Int) + 1) = m at hv hat HL
  generalize (X.filter fun d => decide (d.1 = (k : Int) + 1)) = L at hof hmay HL hLl0
  clear hc
  rcases List.eq_nil_or_concat L with rfl | ⟨L', d, rfl⟩
  · have hnm : n = m := HL.out
    subst hnm
    have hw1 : IntKind.u64.wrap ((n : Int) + 1) = (n : Int) + 1 := by rw [IntKind.wrap_u64]; unfold top at hat; omega
    go_enter Try.func20, Try.ntmps20
    by_cases ht : n = top
    · have hb2 : ((n : Int) == 4611686018427387904) = true := by rw [beq_iff_eq, ht]; rfl
      have HT := Lib.hid ht
      clear ht
      go_wp2_with (first | (go_at_call 35; refine hn.mono ?_; rintro e w' ⟨rfl, rfl⟩) | (go_at_call 39; refine hi.mono ?_; rintro e w' ⟨rfl, rfl⟩) | (go_at_call 43; refine hof.mono ?_; rintro e w1 ⟨v1, rfl, hs1, hg1⟩; obtain ⟨A1, c1, rfl, hc1, ha1⟩ := (hs1 _ hsd).below hg1.below; clear ha1))
      go_ret2
      exact ⟨by rw [nextN, nextE, if_pos HT.out, if_pos HT.out]; rfl, hg1⟩
    · have hb2 : ((n : Int) == 4611686018427387904) = false := by rw [beq_eq_false_iff_ne]; intro e; exact ht (by unfold top; omega)
      have HT := Lib.hid ht
      clear ht
      go_wp2_with (first | (go_at_call 35; refine hn.mono ?_; rintro e w' ⟨rfl, rfl⟩) | (go_at_call 39; refine hi.mono ?_; rintro e w' ⟨rfl, rfl⟩) | (go_at_call 43; refine hof.mono ?_; rintro e w1 ⟨v1, rfl, hs1, hg1⟩; obtain ⟨A1, c1, rfl, hc1, ha1⟩ := (hs1 _ hsd).below hg1.below; clear ha1))
      go_ret2
      exact ⟨by rw [nextN, nextE, if_neg HT.out, if_neg HT.out, ← hw1]; rfl, hg1⟩
  · rw [List.concat_eq_append] at hof hmay HL hLl0
    have hnd : n = d.2 := by have := HL.out; simpa using this
    subst hnd
    have hdt : d.2 ≤ top := (hmay d (by simp)).2.2.2
    have hlen : (L' ++ [d]).length = L'.length + 1 := by simp
    have hLl : L'.length ≤ 100000 := by omega
    clear hLl0
    have hpos := posA L'.length
    have hw1 : IntKind.u64.wrap ((d.2 : Int) + 1) = (d.2 : Int) + 1 := by rw [IntKind.wrap_u64]; unfold top at hdt; omega
    have hw2 : wrap64 ((L'.length : Int) + 1 - 1) = (L'.length : Int) := by rw [Int.add_sub_cancel]; exact IntWalk.wrap64_in _ (by omega)
    have hw3 : wrap64 (L'.length : Int) = (L'.length : Int) := IntWalk.wrap64_in _ (by omega)
    go_enter Try.func20, Try.ntmps20
    by_cases ht : d.2 = top
    · have hb2 : ((d.2 : Int) == 4611686018427387904) = true := by rw [beq_iff_eq, ht]; rfl
      have HT := Lib.hid ht
      clear ht
      go_wp2_with (first | (go_at_call 35; refine hn.mono ?_; rintro e w' ⟨rfl, rfl⟩) | (go_at_call 39; refine hi.mono ?_; rintro e w' ⟨rfl, rfl⟩) | (go_at_call 43; refine hof.mono ?_; rintro e w1 ⟨v1, rfl, hs1, hg1⟩; obtain ⟨A1, c1, rfl, hc1, ha1⟩ := (hs1 _ hsd).below hg1.below; obtain ⟨b1, o1, rfl, hx1⟩ := ha1 (by simp); have hcell := (hx1 L'.length (by simp)).2; rw [show (L' ++ [d])[L'.length]'(by simp) = d by simp] at hcell; clear hx1 ha1; rw [hlen] at hc1))
      go_ret2
      exact ⟨by rw [nextN, nextE, if_pos HT.out, if_pos HT.out]; rfl, hg1⟩
    · have hb2 : ((d.2 : Int) == 4611686018427387904) = false := by rw [beq_eq_false_iff_ne]; intro e; exact ht (by unfold top; omega)
      have HT := Lib.hid ht
      clear ht
      go_wp2_with (first | (go_at_call 35; refine hn.mono ?_; rintro e w' ⟨rfl, rfl⟩) | (go_at_call 39; refine hi.mono ?_; rintro e w' ⟨rfl, rfl⟩) | (go_at_call 43; refine hof.mono ?_; rintro e w1 ⟨v1, rfl, hs1, hg1⟩; obtain ⟨A1, c1, rfl, hc1, ha1⟩ := (hs1 _ hsd).below hg1.below; obtain ⟨b1, o1, rfl, hx1⟩ := ha1 (by simp); have hcell := (hx1 L'.length (by simp)).2; rw [show (L' ++ [d])[L'.length]'(by simp) = d by simp] at hcell; clear hx1 ha1; rw [hlen] at hc1))
      go_ret2
      exact ⟨by rw [nextN, nextE, if_neg HT.out, if_neg HT.out, ← hw1]; rfl, hg1⟩
end Go.Proofs.Ytoglhpcboonpeaa

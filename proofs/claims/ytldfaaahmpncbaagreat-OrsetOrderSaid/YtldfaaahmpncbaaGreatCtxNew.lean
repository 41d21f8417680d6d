/-
  All of Add; the walks of New, Vector, slices.Clone, Extra, Next.
-/
import Derived.Test.YtldfaaahmpncbaaGreatCtxAddI
import Derived.Lib.SliceRun
namespace Go.Proofs.YtldfaaahmpncbaaGreat
open Go.RowKit
open CtxM
set_option linter.unusedVariables false
set_option linter.unusedSimpArgs false
set_option maxRecDepth 20000

def addS (S : List Nat × List Dt) (d : Dt) : List Nat × List Dt := if May d then addF S d else S
theorem Added.same {w w' : World} {g : Nat} {v : Value} {V : List Nat} {X : List Dt} (hc : Cx w g v V X) (h : Grw w w') : Added w w' g v (V, X) :=
  ⟨v, hc.below h.below, .of_below h.below, fun i hi => .inl hi⟩
theorem add_any (g : Nat) (v : Value) (V : List Nat) (X : List Dt) (d : Dt) (w : World) (hc : Cx w g v V X) (hl : X.length < 4096) :
    Calls Tryz.prog 41 #[.pointer (some ⟨g, 0, none⟩), .agg #[.int .i64 d.1, .int .u64 (d.2 : Int)]] w fun e w' =>
      e = .returned (.tuple #[.bool (decide (May d ∧ ¬ In V X d)), .int .i64 (if May d then 0 else 2)]) ∧ Added w w' g v (addS (V, X) d) := by
  unfold addS
  by_cases hM : May d
  · rw [if_pos hM, if_pos hM]
    by_cases hI : In V X d
    · refine (add_old g v V X d w hc hM hI (by omega)).mono ?_
      rintro e w' ⟨rfl, hg⟩
      refine ⟨by simp [hI], ?_⟩
      rw [show addF (V, X) d = (V, X) by unfold addF; rw [if_pos hI]]
      exact .same hc hg
    · by_cases he : d.2 = at_ V d.1 + 1
      · refine (add_next g v V X d w hc hM he (by omega)).mono ?_
        rintro e w' ⟨rfl, ha⟩
        exact ⟨by simp [hI, hM], ha⟩
      · refine (add_ins g v V X d w hc hM hI he hl).mono ?_
        rintro e w' ⟨rfl, ha⟩
        exact ⟨by simp [hI, hM], ha⟩
  · rw [if_neg hM, if_neg hM]
    refine (add_bad g v V X d w hc hM).mono ?_
    rintro e w' ⟨rfl, hg⟩
    exact ⟨by simp [hM], .same hc hg⟩

theorem new_any (w : World) : Calls Tryz.prog 40 #[] w fun e w' => e = .returned (.pointer (some ⟨w.heap.size, 0, none⟩)) ∧ Cx w' w.heap.size (.slice none 0 0) zeros [] ∧ Below w.heap.size w w' := by
  go_enter Tryz.func40, Tryz.ntmps40
  go_wp2
  go_ret
  exact ⟨rfl, ⟨Blk.new w _ _, OwnD.nil, by simp [Value.ownBlock], fit_zero⟩, (Below.refl _ _).alloc (Nat.le_refl _) _⟩

set_option maxHeartbeats 1000000 in
theorem vector_any (g : Nat) (v : Value) (V : List Nat) (X : List Dt) (w : World) (hc : Cx w g v V X) :
    Calls Tryz.prog 59 #[.pointer (some ⟨g, 0, none⟩)] w fun e w' => e = .returned (.agg (uqs V)) ∧ Below w.heap.size w w' := by
  obtain ⟨Z, hZ⟩ : ∃ Z : Array Value, Z = #[.int .u64 0, .int .u64 0, .int .u64 0, .int .u64 0, .int .u64 0, .int .u64 0, .int .u64 0, .int .u64 0, .int .u64 0, .int .u64 0, .int .u64 0, .int .u64 0, .int .u64 0, .int .u64 0, .int .u64 0, .int .u64 0] := ⟨_, rfl⟩
  have hZs : Z.size = 16 := by rw [hZ]; rfl
  have hn := none_at g true (w.alloc (.cells Z 97)) (hc.below ((Below.refl _ _).alloc (Nat.le_refl _) _)).made
  have hc1 := hc.below ((Below.refl w.heap.size w).alloc (Nat.le_refl _) (.cells Z 97))
  have hb1 : Below w.heap.size w (w.alloc (.cells Z 97)) := (Below.refl w.heap.size w).alloc (Nat.le_refl _) (.cells Z 97)
  have hB1 := Blk.new w 97 Z
  go_enter Tryz.func59, Tryz.ntmps59
  go_wp2_with fail
  rw [← hZ]
  clear hZ
  refine hn.mono ?_
  rintro e w1 ⟨rfl, rfl⟩
  generalize w.alloc (.cells Z 97) = W at hc1 hb1 hB1 ⊢
  have hV := hc.fit.len
  have hcv := hc1.range
  have hinf := uqs_info hV
  have hone := uqs_one V
  have hth := hB1.there
  rw [hZs, ← hV, ← uqs_size] at hth
  clear hn
  go_wp2_with (first | (refine wpList_load_mid rfl 97 _ rfl g 1 rfl (V.map uq) _ hcv Tryz.underlying97 rfl (by rw [info_vec, List.length_map, hV]) ?_) | (refine wpList_store_mid rfl 97 _ _ rfl w.heap.size 0 (uqs V) rfl rfl hth hinf hone ?_))
  have hE := hB1.setRow (ds := uqs V) (by rw [uqs_size, hV, hZs])
  have hgE := grown_setCells w.heap.size (uqs V).toList 0 W
  exact bodyPost_ret (v := .agg (uqs V)) (results_cell_row rfl _ _ w.heap.size 97 (uqs V) (0, 0) _ rfl hE Tryz.underlying97 rfl hinf) rfl ⟨rfl, Below.only hb1 hgE (Nat.le_refl _) hb1.size⟩

set_option maxHeartbeats 1000000 in
theorem clone_any (v : Value) (X : List Dt) (w : World) (ho : OwnD w 0 v X) (hl : X.length ≤ 100000) :
    Calls Tryz.prog 88 #[v] w fun e w' => ∃ v', e = .returned v' ∧ OwnD w' w.heap.size v' X ∧ Below w.heap.size w w' := by
  obtain ⟨i0, hi, hz0, hz1, hz2⟩ := info_parts info_dot
  have heq := fun (w : World) (a : Option Addr) (n c : Nat) => Lib.run_eql_slice_nil (P := Tryz.prog) w 30 41 a n c 0 0 Tryz.underlying30
  rcases ho.2 with ⟨rfl, h0⟩ | ⟨g, cap, cur, rfl, _⟩
  · obtain rfl : X = [] := List.eq_nil_of_length_eq_zero h0
    go_enter Tryz.func88, Tryz.ntmps88
    go_wp2
    go_ret
    exact ⟨_, rfl, OwnD.nil, Below.refl _ _⟩
  · have hs : Sd (w.alloc (.cells #[] 41)) (.slice (some ⟨g, 0, none⟩) X.length cap) X := ho.sd.alloc _
    have hb : Below w.heap.size w (w.alloc (.cells #[] 41)) := (Below.refl _ _).alloc (Nat.le_refl _) _
    have ho1 : OwnD (w.alloc (.cells #[] 41)) w.heap.size (.slice (some ⟨w.heap.size, 0, none⟩) 0 0) [] := World.ownsRow_made w #[] 0 (Nat.le_refl _) (Nat.zero_le _) rfl
    have hlen : ([] : List Dt).length + X.length ≤ 1000000 := by simp; omega
    go_enter Tryz.func88, Tryz.ntmps88
    go_wp2_with (refine wpList_append_dots _ rfl (.tmp 5) (.tmp 6) 30 rfl w.heap.size i0 Tryz.underlying30 hi hz0 hz1 hz2 (.slice (some ⟨w.heap.size, 0, none⟩) 0 0) [] rfl ho1 _ X rfl hs hlen hb.size ?_; intro v' w2 ho2 hgr _ hnw)
    go_ret
    exact ⟨_, rfl, ho2, ho1.grown hgr hb (Nat.le_refl _) hb.size⟩
theorem extra_any (g : Nat) (v : Value) (V : List Nat) (X : List Dt) (w : World) (hc : Cx w g v V X) (hl : X.length ≤ 100000) :
    Calls Tryz.prog 60 #[.pointer (some ⟨g, 0, none⟩)] w fun e w' => ∃ v', e = .returned v' ∧ OwnD w' w.heap.size v' X ∧ Below w.heap.size w w' := by
  have hn := none_at g true w hc.made
  have hcl := clone_any v X w hc.row hl
  have hx := hc.extra
  obtain ⟨A, c, rfl, _⟩ := hc.row.sd
  clear hc
  go_enter Tryz.func60, Tryz.ntmps60
  go_wp2_with (first | (go_at_call 77; refine hn.mono ?_; rintro e w' ⟨rfl, rfl⟩) | (go_at_call 88; refine hcl.mono ?_; rintro e w' ⟨v', rfl, ho, hb⟩))
  go_ret
  exact ⟨_, rfl, ho, hb⟩

theorem posA (n : Nat) : (0 : Int) < (n : Int) + 1 := by omega
/-- The greatest count of a region. -/
def lastF (V : List Nat) (X : List Dt) (r : Int) : Nat := match (X.filter fun d => decide (d.1 = r)).getLast? with
  | some d => d.2
  | none => at_ V r
def nextN (n : Nat) : Int := if n = top then 0 else (n : Int) + 1
def nextE (n : Nat) : Int := if n = top then 5 else 0
end Go.Proofs.YtldfaaahmpncbaaGreat

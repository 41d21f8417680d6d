/-
  Steps of a region that draws its order and whose callees but lay new blocks: a row loaded. event's MayDot, Less, MayName, Under, Join: each but grows the world.
-/
import Derived.Test.YtigepbklpiilpaaEvMem
import Derived.Test.YtigepbklpiilpaaHeldA
import Derived.Shelf.SlSortCmp.QuietGrown
import Derived.BigQuiet
import Derived.Deep.MidRow
namespace Go.Proofs.Ytigepbklpiilpaa
open Go.RowKit
open CtxM
set_option linter.unusedVariables false
set_option linter.unusedSimpArgs false

/-- What keeps all old blocks and draws no less than before but grows the world. -/
theorem grw_of {w w' : World} (h : Below w.heap.size w w') (hd : w.drawn ≤ w'.drawn) : Grw w w' := by
  refine ⟨w'.drawn - w.drawn, w'.heap.extract w.heap.size w'.heap.size, ?_⟩
  have e1 : w'.heap = w.heap ++ w'.heap.extract w.heap.size w'.heap.size := by
    apply Array.ext_getElem?
    intro k
    have hs := h.size
    by_cases hk : k < w.heap.size
    · rw [h.block k hk, Array.getElem?_append_left hk]
    · rw [Array.getElem?_append_right (by omega), Array.getElem?_extract]
      by_cases h2 : k < w'.heap.size
      · rw [if_pos (by omega), show w.heap.size + (k - w.heap.size) = k by omega]
      · rw [if_neg (by omega), Array.getElem?_eq_none (by omega)]
  have h1 := h.os
  have h2 := h.tape
  have h3 := h.output
  clear h
  cases w
  cases w'
  simp only [Go.Sort.grow, World.drewN] at *
  subst h1 h2 h3
  rw [← e1]
  congr 1
  omega

section
variable {P : Program} {ops : Array Oper} {w : World} {Q : Act → Prop} {a : Act} {o : Oper} {rest : List Oper}
/-- A row that lies in the world ahead of the region, loaded. -/
theorem q_load (hw : Region.wanted o (yielded ops a.tmps) = true) (ty : TypeId) (x : Operand) (ho : o.op = .load ty x) (g off : Nat) (hx : a.eval x = .pointer (some ⟨g, off, none⟩)) (cs : Array Value) (d : TypeDesc)
    (hg : g < w.heap.size) (hr : w.rangeAt g off cs.toList) (hu : P.underlying ty = some d) (hd : d.isRow = true) (hi : (P.info? ty).map (·.size) = some cs.size)
    (h : wpQuiet P ops (fun w' => ∃ p : GrownBy, w' = Go.Sort.grow (w.drewN p.n) p.os) Q rest (a.put o.dst (.agg cs))) : wpQuiet P ops (fun w' => ∃ p : GrownBy, w' = Go.Sort.grow (w.drewN p.n) p.os) Q (o :: rest) a := by
  refine BigFrame.wpQuiet_want hw fun K hK => ⟨_, fun W hW => ?_, hK _ h⟩
  obtain ⟨p, rfl⟩ := hW
  unfold Oper.quietAt execOp
  have hr' : (Go.Sort.grow (w.drewN p.n) p.os).rangeAt g off cs.toList := fun j v hv => cell_grown (a := ⟨g, off + j, none⟩) hg (hr j v hv) p.n p.os
  simp only [ho, hx, Instr.loadAt, Instr.sureAddr, Sem.run_bind, Sem.run_pure, Result.andThen_ok, run_loadVar_mid _ g off ty cs.toList d hr' hu hd (by simpa using hi)]
  exact ⟨rfl, rfl⟩
end

theorem emayDot_any (d : Dt) (w : World) : Calls Try.prog 51 #[.agg #[.int .i64 d.1, .int .u64 (d.2 : Int)]] w fun e w' => e = .returned (.bool (decide (May d))) ∧ Grw w w' := by
  have hg := (Grw.refl w).alloc (.cells #[.int .i64 d.1, .int .u64 (d.2 : Int)] 24)
  go_enter Try.func51, Try.ntmps51
  by_cases h1 : 1 ≤ d.1
  · by_cases h2 : d.1 ≤ 16
    · by_cases h3 : (1 : Int) ≤ (d.2 : Int)
      · by_cases h4 : (d.2 : Int) ≤ 4611686018427387904
        · go_wp2
          go_ret
          exact ⟨ret_bool (by rw [eq_comm, decide_eq_true_iff]; exact ⟨h1, h2, by omega, by unfold top; omega⟩), hg⟩
        · go_wp2
          go_ret
          exact ⟨ret_bool (by rw [eq_comm, decide_eq_false_iff_not]; rintro ⟨_, _, _, h⟩; unfold top at h; omega), hg⟩
      · go_wp2
        go_ret
        exact ⟨ret_bool (by rw [eq_comm, decide_eq_false_iff_not]; rintro ⟨_, _, h, _⟩; omega), hg⟩
    · go_wp2
      go_ret
      exact ⟨ret_bool (by rw [eq_comm, decide_eq_false_iff_not]; rintro ⟨_, h, _, _⟩; omega), hg⟩
  · go_wp2
    go_ret
    exact ⟨ret_bool (by rw [eq_comm, decide_eq_false_iff_not]; rintro ⟨h, _, _, _⟩; omega), hg⟩

theorem eless_any (a b : Dt) (w : World) : Calls Try.prog 19 #[.agg #[.int .i64 a.1, .int .u64 (a.2 : Int)], .agg #[.int .i64 b.1, .int .u64 (b.2 : Int)]] w fun e w' => e = .returned (.bool (decide (Lt a b))) ∧ Grw w w' := by
  have hg := ((Grw.refl w).alloc (.cells #[.int .i64 a.1, .int .u64 (a.2 : Int)] 24)).alloc (.cells #[.int .i64 b.1, .int .u64 (b.2 : Int)] 24)
  go_enter Try.func19, Try.ntmps19
  by_cases h1 : a.1 = b.1
  · have k1 : (a.1 == b.1) = true := by rw [beq_iff_eq]; exact h1
    have e : Lt a b ↔ a.2 < b.2 := by unfold Lt; omega
    have E := Lib.hid e
    clear e
    have H := Lib.hid h1
    clear h1
    go_wp2
    go_ret
    exact ⟨ret_bool (by rw [Bool.eq_iff_iff, decide_eq_true_iff, decide_eq_true_iff]; exact E.out.symm), hg⟩
  · have k1 : (a.1 == b.1) = false := by rw [beq_eq_false_iff_ne]; exact h1
    have e : Lt a b ↔ a.1 < b.1 := by unfold Lt; omega
    have E := Lib.hid e
    clear e
    go_wp2
    go_ret
    exact ⟨ret_bool (by rw [Bool.eq_iff_iff, decide_eq_true_iff, decide_eq_true_iff]; exact E.out.symm), hg⟩

set_option maxHeartbeats 1000000 in
/-- The greater number of each region. -/
theorem ejoin_any (A B : List Nat) (w : World) (hA : A.length = 16) (hB : B.length = 16) :
    Calls Try.prog 18 #[.agg (uqs A), .agg (uqs B)] w fun e w' => e = .returned (.agg (uqs (maxV A B))) ∧ Grw w w' := by
  have hidx := run_index_uqs B hB
  obtain ⟨Z, hZ⟩ : ∃ Z : Array Value, Z = #[.int .u64 0, .int .u64 0, .int .u64 0, .int .u64 0, .int .u64 0, .int .u64 0, .int .u64 0, .int .u64 0, .int .u64 0, .int .u64 0, .int .u64 0, .int .u64 0, .int .u64 0, .int .u64 0, .int .u64 0, .int .u64 0] := ⟨_, rfl⟩
  have hZs : Z.size = 16 := by rw [hZ]; rfl
  have hmx := maxV_getD A B
  have hml := maxV_length A B
  generalize maxV A B = W at hmx hml ⊢
  have s1 : (w.alloc (.cells (uqs A) 27)).heap.size = w.heap.size + 1 := by simp
  have s2 : ((w.alloc (.cells (uqs A) 27)).alloc (.cells (uqs B) 27)).heap.size = w.heap.size + 1 + 1 := by simp
  have b0 : Blk (((w.alloc (.cells (uqs A) 27)).alloc (.cells (uqs B) 27)).alloc (.cells Z 27)) w.heap.size 27 (uqs A) := ((Blk.new w _ _).alloc _).alloc _
  have b1 : Blk (((w.alloc (.cells (uqs A) 27)).alloc (.cells (uqs B) 27)).alloc (.cells Z 27)) (w.heap.size + 1) 27 (uqs B) := by
    have := (Blk.new (w.alloc (.cells (uqs A) 27)) 27 (uqs B)).alloc (.cells Z 27)
    rw [s1] at this; exact this
  have b2 : Blk (((w.alloc (.cells (uqs A) 27)).alloc (.cells (uqs B) 27)).alloc (.cells Z 27)) (w.heap.size + 2) 27 Z := by
    have := Blk.new ((w.alloc (.cells (uqs A) 27)).alloc (.cells (uqs B) 27)) 27 Z
    rw [s2] at this; exact this
  have bb : Below w.heap.size w (((w.alloc (.cells (uqs A) 27)).alloc (.cells (uqs B) 27)).alloc (.cells Z 27)) := (((Below.refl _ _).alloc (Nat.le_refl _) _).alloc (by simp) _).alloc (by simp; omega) _
  have hinfB := uqs_info hB
  go_enter Try.func18, Try.ntmps18
  rw [hZ] at b0 b1 b2 bb
  go_wp2_with (refine wpList_load_row rfl 27 _ rfl (w.heap.size + 1) rfl 27 (uqs B) (0, 0) _ b1 Try.underlying27 rfl hinfB ?_)
  rw [← hZ] at b0 b1 b2 bb ⊢
  clear hZ
  go_loopw [8] (fun z wr => ∃ i : Nat, z = .int .i64 (i : Int) ∧ i ≤ 16 ∧ ∃ U, Mix W A U i ∧ Blk wr w.heap.size 27 (uqs U) ∧ Blk wr (w.heap.size + 2) 27 Z ∧ Below w.heap.size w wr ∧ w.drawn ≤ wr.drawn) (fun z _ => 16 - (intOf z).toNat)
  case atStart => exact ⟨0, rfl, Nat.zero_le _, A, Mix.start hA W, b0, b2, bb, Nat.le_refl _⟩
  case round =>
    clear b0 b1 b2 bb
    obtain ⟨i, rfl, hi16, U, hU, hB0, hB2, hb, hdr⟩ := hrel
    by_cases hlt : i < 16
    · have hx := hidx i hlt
      have hU16 := hU.1
      have hUg := hU.get hlt
      rw [show at_ A ((i : Int) + 1) = A.getD i 0 by unfold at_; rw [show ((i : Int) + 1 - 1).toNat = i by omega]] at hUg
      have hc0 := hB0.cell i
      rw [uqs_get _ _ (by omega), hUg] at hc0
      have hfz := hB0.frozen i
      have hm := hmx i hlt
      have hst := hB0.set_ i (.int .u64 ((max (A.getD i 0) (B.getD i 0) : Nat) : Int))
      rw [uqs_set, ← hm] at hst
      have hnx := hU.next hlt
      generalize A.getD i 0 = x at hm hc0 hUg
      generalize B.getD i 0 = y at hm hx
      have HM := Lib.hid hm
      have HD := Lib.hid hdr
      clear hm hUg hidx hmx hdr
      go_wp2
      have e : (if x < y then (y : Int) else (x : Int)) = ((W.getD i 0 : Nat) : Int) := by
        rw [HM.out]
        split <;> omega
      rw [e]
      exact ⟨⟨i + 1, by go_num, by omega, _, hnx, hst, hB2.far (fun h => by have h2 : w.heap.size + 2 = w.heap.size := h; omega) _, Below.only hb (grown_setCell _ _ _ _) (Nat.le_refl _) hb.size, HD.out⟩, by simp [intOf]; omega⟩
    · obtain rfl : i = 16 := by omega
      have hUW := hU.last hml
      subst hUW
      have hth := hB2.there
      rw [hZs, ← hml, ← uqs_size] at hth
      have hinf := uqs_info hml
      have hone := uqs_one U
      have HD := Lib.hid hdr
      clear hidx hmx hdr
      go_wp2_with (first | (refine wpList_load_row rfl 27 _ rfl w.heap.size rfl 27 (uqs U) (0, 0) _ hB0 Try.underlying27 rfl hinf ?_) | (refine wpList_store_mid rfl 27 _ _ rfl (w.heap.size + 2) 0 (uqs U) rfl rfl hth hinf hone ?_))
      have hE := hB2.setRow (ds := uqs U) (by rw [uqs_size, hml, hZs])
      have hgE := grown_setCells (w.heap.size + 2) (uqs U).toList 0 wr
      have hdE : (wr.setCells (w.heap.size + 2) 0 (uqs U).toList).drawn = wr.drawn := by
        generalize (uqs U).toList = l
        generalize 0 = k
        clear hE hgE
        have : ∀ (l : List Value) (k : Nat) (W : World), (W.setCells (w.heap.size + 2) k l).drawn = W.drawn := by
          intro l
          induction l with
          | nil => intro k W; rfl
          | cons v l ih => intro k W; exact (ih (k + 1) _).trans rfl
        exact this l k wr
      exact bodyPost_ret (v := .agg (uqs U)) (results_cell_row rfl _ _ (w.heap.size + 2) 27 (uqs U) (0, 0) _ rfl hE Try.underlying27 rfl hinf) rfl ⟨rfl, grw_of (Below.only hb hgE (by omega) hb.size) (by rw [hdE]; exact HD.out)⟩

theorem uqs_range {w : World} {g : Nat} {t : TypeId} {V : List Nat} (h : Blk w g t (uqs V)) : w.rangeAt g 0 (uqs V).toList := fun j u hu => by
  rw [Nat.zero_add, h.cell]; simpa using hu
/-- Under: does the dot lie under the vector? -/
def Und (V : List Nat) (d : Dt) : Prop := May d ∧ d.2 ≤ at_ V d.1
instance (V : List Nat) (d : Dt) : Decidable (Und V d) := by unfold Und; infer_instance

set_option maxHeartbeats 1000000 in
theorem eunder_any (V : List Nat) (d : Dt) (w : World) (hV : V.length = 16) : Calls Try.prog 20 #[.agg (uqs V), .agg #[.int .i64 d.1, .int .u64 (d.2 : Int)]] w fun e w' => e = .returned (.bool (decide (Und V d))) ∧ Grw w w' := by
  have hm := fun W => emayDot_any d W
  have hfo : Try.prog.follows .mixedOrders = true := by kernel_rfl
  have s1 : (w.alloc (.cells (uqs V) 27)).heap.size = w.heap.size + 1 := by simp
  have hg := ((Grw.refl w).alloc (.cells (uqs V) 27)).alloc (.cells #[.int .i64 d.1, .int .u64 (d.2 : Int)] 24)
  have b0 := (Blk.new w 27 (uqs V)).alloc (.cells #[.int .i64 d.1, .int .u64 (d.2 : Int)] 24)
  have b1 := Blk.new (w.alloc (.cells (uqs V) 27)) 24 #[.int .i64 d.1, .int .u64 (d.2 : Int)]
  rw [s1] at b1
  go_enter Try.func20, Try.ntmps20
  go_wp2_with fail
  generalize ((w.alloc (.cells (uqs V) 27)).alloc (.cells #[.int .i64 d.1, .int .u64 (d.2 : Int)] 24)) = w1 at hg b0 b1 ⊢
  have q0 : ∀ n os, (Go.Sort.grow (w1.drewN n) os).cell? ⟨w.heap.size + 1, 0, none⟩ = some (.int .i64 d.1) := cell_grown b1.lt (by rw [b1.cell]; rfl)
  have q1 : ∀ n os, (Go.Sort.grow (w1.drewN n) os).cell? ⟨w.heap.size + 1, 1, none⟩ = some (.int .u64 (d.2 : Int)) := cell_grown b1.lt (by rw [b1.cell]; rfl)
  by_cases hM : May d
  · rw [decide_eq_true hM] at hm
    obtain ⟨k, hk⟩ : ∃ k : Nat, d.1 = (k : Int) + 1 := ⟨(d.1 - 1).toNat, by have := hM.1; omega⟩
    have hk16 : k < 16 := by have := hM.2.1; omega
    have q2 : ∀ n os, (Go.Sort.grow (w1.drewN n) os).cell? ⟨w.heap.size, k, none⟩ = some (.int .u64 (V.getD k 0 : Int)) := cell_grown b0.lt (by rw [b0.cell]; exact uqs_get V k (by omega))
    have HU : Und V d ↔ d.2 ≤ V.getD k 0 := by
      unfold Und at_
      rw [hk, show ((k : Int) + 1 - 1).toNat = k by omega]
      exact ⟨fun h => h.2, fun h => ⟨hM, h⟩⟩
    have HH := Lib.hid HU
    rw [hk] at q0 hm
    generalize V.getD k 0 = m at q2 HU HH
    clear HU
    have HK := Lib.hid hk
    have hwk : IntKind.i64.wrap (k : Int) = (k : Int) := by rw [IntKind.wrap_i64]; omega
    have hki : (k : Int) < 16 := by omega
    clear hM hk b0 b1
    rw [HK.out]
    refine wp_region_quiet_grown (by assumption) (by kernel_rfl) ?_
    repeat (first | go_big_quiet_skip | go_big_quiet_step (first | (go_at_call 51; refine Calls.grown_of (hm _))))
    refine wpQuiet_nil ?_
    rintro _ ⟨⟨nq, osq⟩, rfl⟩
    go_wp2
    go_ret
    refine ⟨ret_bool ?_, hg.trans ⟨nq, osq, rfl⟩⟩
    have := HH.out
    rw [Bool.eq_iff_iff, decide_eq_true_iff, decide_eq_true_iff, this]
  · rw [decide_eq_false hM] at hm
    refine wp_region_quiet_grown (by assumption) (by kernel_rfl) ?_
    repeat (first | go_big_quiet_skip | go_big_quiet_step (first | (go_at_call 51; refine Calls.grown_of (hm _))))
    refine wpQuiet_nil ?_
    rintro _ ⟨⟨nq, osq⟩, rfl⟩
    go_wp2
    go_ret
    exact ⟨ret_bool (by rw [eq_comm, decide_eq_false_iff_not]; exact fun h => hM h.1), hg.trans ⟨nq, osq, rfl⟩⟩
end Go.Proofs.Ytigepbklpiilpaa

/-
  orset's methods of what is no set.
-/
import Derived.Test.YtldfaaahmpncbaaGreatOrsAA
import Derived.Test.YtldfaaahmpncbaaGreatCtxNon
namespace Go.Proofs.YtldfaaahmpncbaaGreat
open Go.Maps Go.WideShapes Go.WideMaps
open Go.RowKit
open CtxM
set_option linter.unusedVariables false
set_option linter.unusedSimpArgs false
set_option maxRecDepth 20000

/-- s is no set: nil, or a zero one. -/
def NoS (w : World) (s : Value) : Prop := s = .pointer none ∨ ∃ p, s = .pointer (some ⟨p, 0, none⟩) ∧ w.cell? ⟨p, 0, none⟩ = some (.pointer none)
theorem NoS.below {w w' : World} {s : Value} (h : NoS w s) (hb : Below w.heap.size w w') : NoS w' s := by
  rcases h with h | ⟨p, h, hc⟩
  · exact .inl h
  · exact .inr ⟨p, h, (hb.cell (World.block_lt_of_cell? w _ hc)).trans hc⟩
theorem nos_none {w : World} {s : Value} (h : NoS w s) : Calls Tryz.prog 48 #[s] w fun e w' => e = .returned (.bool true) ∧ w' = w := by
  rcases h with rfl | ⟨p, rfl, hc⟩
  · exact onone_nil w
  · go_enter Tryz.func48, Tryz.ntmps48
    go_wp2
    go_ret
    exact ⟨rfl, rfl⟩
set_option maxHeartbeats 1000000 in
theorem nos_collect {w : World} {s : Value} (h : NoS w s) (d : Dt) : Calls Tryz.prog 35 #[s, .agg #[.int .i64 d.1, .int .u64 (d.2 : Int)]] w fun e w' => e = .returned (.int .i64 1) ∧ Below w.heap.size w w' := by
  have H := Lib.hid (show ∀ W, Below w.heap.size w W → NoS W s from fun W hb => h.below hb)
  clear h
  have hb0 : Below w.heap.size w w := Below.refl _ _
  go_enter Tryz.func35, Tryz.ntmps35
  go_wp2_with (go_at_call 48; refine (nos_none (H.out _ (by first | exact Below.refl _ _ | exact (Below.refl _ _).alloc (Nat.le_refl _) _ | exact ((Below.refl _ _).alloc (Nat.le_refl _) _).alloc (by simp) _ | exact (((Below.refl _ _).alloc (Nat.le_refl _) _).alloc (by simp) _).alloc (by simp; omega) _))).mono ?_; rintro e wn ⟨rfl, rfl⟩)
  go_ret
  exact ⟨rfl, by first | exact Below.refl _ _ | exact (Below.refl _ _).alloc (Nat.le_refl _) _ | exact ((Below.refl _ _).alloc (Nat.le_refl _) _).alloc (by simp) _ | exact (((Below.refl _ _).alloc (Nat.le_refl _) _).alloc (by simp) _).alloc (by simp; omega) _⟩
set_option maxHeartbeats 1000000 in
theorem nos_copy {w : World} {s : Value} (h : NoS w s)  : Calls Tryz.prog 13 #[s] w fun e w' => e = .returned (.pointer none) ∧ Below w.heap.size w w' := by
  have H := Lib.hid (show ∀ W, Below w.heap.size w W → NoS W s from fun W hb => h.below hb)
  clear h
  have hb0 : Below w.heap.size w w := Below.refl _ _
  go_enter Tryz.func13, Tryz.ntmps13
  go_wp2_with (go_at_call 48; refine (nos_none (H.out _ (by first | exact Below.refl _ _ | exact (Below.refl _ _).alloc (Nat.le_refl _) _ | exact ((Below.refl _ _).alloc (Nat.le_refl _) _).alloc (by simp) _ | exact (((Below.refl _ _).alloc (Nat.le_refl _) _).alloc (by simp) _).alloc (by simp; omega) _))).mono ?_; rintro e wn ⟨rfl, rfl⟩)
  go_ret
  exact ⟨rfl, by first | exact Below.refl _ _ | exact (Below.refl _ _).alloc (Nat.le_refl _) _ | exact ((Below.refl _ _).alloc (Nat.le_refl _) _).alloc (by simp) _ | exact (((Below.refl _ _).alloc (Nat.le_refl _) _).alloc (by simp) _).alloc (by simp; omega) _⟩
set_option maxHeartbeats 1000000 in
theorem nos_bucket {w : World} {s : Value} (h : NoS w s) (n : Int) : Calls Tryz.prog 32 #[s, .int .i64 n] w fun e w' => e = .returned (.tuple #[.slice none 0 0, .int .i64 1]) ∧ Below w.heap.size w w' := by
  have H := Lib.hid (show ∀ W, Below w.heap.size w W → NoS W s from fun W hb => h.below hb)
  clear h
  have hb0 : Below w.heap.size w w := Below.refl _ _
  go_enter Tryz.func32, Tryz.ntmps32
  go_wp2_with (go_at_call 48; refine (nos_none (H.out _ (by first | exact Below.refl _ _ | exact (Below.refl _ _).alloc (Nat.le_refl _) _ | exact ((Below.refl _ _).alloc (Nat.le_refl _) _).alloc (by simp) _ | exact (((Below.refl _ _).alloc (Nat.le_refl _) _).alloc (by simp) _).alloc (by simp; omega) _))).mono ?_; rintro e wn ⟨rfl, rfl⟩)
  go_ret2
  exact ⟨rfl, by first | exact Below.refl _ _ | exact (Below.refl _ _).alloc (Nat.le_refl _) _ | exact ((Below.refl _ _).alloc (Nat.le_refl _) _).alloc (by simp) _ | exact (((Below.refl _ _).alloc (Nat.le_refl _) _).alloc (by simp) _).alloc (by simp; omega) _⟩
set_option maxHeartbeats 1000000 in
theorem nos_remove {w : World} {s : Value} (h : NoS w s) (t u : ByteArray) : Calls Tryz.prog 46 #[s, .agg #[.string t, .string u]] w fun e w' => e = .returned (.tuple #[.slice none 0 0, .int .i64 1]) ∧ Below w.heap.size w w' := by
  have H := Lib.hid (show ∀ W, Below w.heap.size w W → NoS W s from fun W hb => h.below hb)
  clear h
  have hb0 : Below w.heap.size w w := Below.refl _ _
  go_enter Tryz.func46, Tryz.ntmps46
  go_wp2_with (go_at_call 48; refine (nos_none (H.out _ (by first | exact Below.refl _ _ | exact (Below.refl _ _).alloc (Nat.le_refl _) _ | exact ((Below.refl _ _).alloc (Nat.le_refl _) _).alloc (by simp) _ | exact (((Below.refl _ _).alloc (Nat.le_refl _) _).alloc (by simp) _).alloc (by simp; omega) _))).mono ?_; rintro e wn ⟨rfl, rfl⟩)
  go_ret2
  exact ⟨rfl, by first | exact Below.refl _ _ | exact (Below.refl _ _).alloc (Nat.le_refl _) _ | exact ((Below.refl _ _).alloc (Nat.le_refl _) _).alloc (by simp) _ | exact (((Below.refl _ _).alloc (Nat.le_refl _) _).alloc (by simp) _).alloc (by simp; omega) _⟩
set_option maxHeartbeats 1000000 in
theorem nos_add {w : World} {s : Value} (h : NoS w s) (t u : ByteArray) (d : Dt) : Calls Tryz.prog 45 #[s, .agg #[.string t, .string u], .agg #[.int .i64 d.1, .int .u64 (d.2 : Int)]] w fun e w' => e = .returned (.tuple #[.slice none 0 0, .int .i64 1]) ∧ Below w.heap.size w w' := by
  have H := Lib.hid (show ∀ W, Below w.heap.size w W → NoS W s from fun W hb => h.below hb)
  clear h
  have hb0 : Below w.heap.size w w := Below.refl _ _
  go_enter Tryz.func45, Tryz.ntmps45
  go_wp2_with (go_at_call 48; refine (nos_none (H.out _ (by first | exact Below.refl _ _ | exact (Below.refl _ _).alloc (Nat.le_refl _) _ | exact ((Below.refl _ _).alloc (Nat.le_refl _) _).alloc (by simp) _ | exact (((Below.refl _ _).alloc (Nat.le_refl _) _).alloc (by simp) _).alloc (by simp; omega) _))).mono ?_; rintro e wn ⟨rfl, rfl⟩)
  go_ret2
  exact ⟨rfl, by first | exact Below.refl _ _ | exact (Below.refl _ _).alloc (Nat.le_refl _) _ | exact ((Below.refl _ _).alloc (Nat.le_refl _) _).alloc (by simp) _ | exact (((Below.refl _ _).alloc (Nat.le_refl _) _).alloc (by simp) _).alloc (by simp; omega) _⟩
set_option maxHeartbeats 1000000 in
theorem nos_see {w : World} {s : Value} (h : NoS w s) (l : Value) : Calls Tryz.prog 34 #[s, l] w fun e w' => e = .returned (.tuple #[.bool false, .int .i64 1]) ∧ Below w.heap.size w w' := by
  have H := Lib.hid (show ∀ W, Below w.heap.size w W → NoS W s from fun W hb => h.below hb)
  clear h
  have hb0 : Below w.heap.size w w := Below.refl _ _
  go_enter Tryz.func34, Tryz.ntmps34
  go_wp2_with (go_at_call 48; refine (nos_none (H.out _ (by first | exact Below.refl _ _ | exact (Below.refl _ _).alloc (Nat.le_refl _) _ | exact ((Below.refl _ _).alloc (Nat.le_refl _) _).alloc (by simp) _ | exact (((Below.refl _ _).alloc (Nat.le_refl _) _).alloc (by simp) _).alloc (by simp; omega) _))).mono ?_; rintro e wn ⟨rfl, rfl⟩)
  go_ret2
  exact ⟨rfl, by first | exact Below.refl _ _ | exact (Below.refl _ _).alloc (Nat.le_refl _) _ | exact ((Below.refl _ _).alloc (Nat.le_refl _) _).alloc (by simp) _ | exact (((Below.refl _ _).alloc (Nat.le_refl _) _).alloc (by simp) _).alloc (by simp; omega) _⟩
end Go.Proofs.YtldfaaahmpncbaaGreat

namespace Go.Proofs.YtldfaaahmpncbaaGreat
open Go.Maps Go.WideShapes Go.WideMaps
open Go.RowKit
open CtxM
set_option linter.unusedVariables false
set_option linter.unusedSimpArgs false
set_option maxRecDepth 20000

theorem nos_look {w : World} {s : Value} (h : NoS w s) : Calls Tryz.prog 62 #[s] w fun e w' => e = .returned (.agg #[.pointer none, .map none, .map none]) ∧ Below w.heap.size w w' := by
  have hn := nos_none (h.below ((Below.refl _ _).alloc (Nat.le_refl _) (.cells #[.pointer none, .map none, .map none] 84)))
  clear h
  go_enter Tryz.func62, Tryz.ntmps62
  go_wp2_with (go_at_call 48; refine hn.mono ?_; rintro e wn ⟨rfl, rfl⟩)
  exact bodyPost_ret (v := .agg #[.pointer none, .map none, .map none]) (results_cell_row rfl _ _ w.heap.size 84 _ (0, 0) _ rfl (heap_alloc_new w _) Tryz.underlying84 rfl info_set) rfl ⟨rfl, (Below.refl _ _).alloc (Nat.le_refl _) _⟩
theorem look_none1 (d : Dt) (hd : OkD d) (w : World) : (Instr.lookup 81 (.map none) (.agg #[.int .i64 d.1, .int .u64 (d.2 : Int)]) true).run Tryz.prog w = .ok (.tuple #[.agg #[.string ⟨#[]⟩, .string ⟨#[]⟩], .bool false]) w := by
  have hk := keyOf_dot hd
  have hz := zeroKey w
  have hu := Tryz.underlying81
  have hc := fun w => dotK.check w true (v := dval d) (l := litD d) hk
  simp only [dval] at hc
  simp [Instr.lookup, run_underlying hu, hc, hz, keyV, Result.andThen, Instr.findKey]
  rfl
theorem set_f0 (a b c : Value) (W : World) : (Instr.field 84 (.agg #[a, b, c]) 0).run Tryz.prog W = .ok a W := by kernel_rfl
theorem set_f1 (a b c : Value) (W : World) : (Instr.field 84 (.agg #[a, b, c]) 1).run Tryz.prog W = .ok b W := by kernel_rfl
theorem set_f2 (a b c : Value) (W : World) : (Instr.field 84 (.agg #[a, b, c]) 2).run Tryz.prog W = .ok c W := by kernel_rfl
set_option maxHeartbeats 2000000 in
theorem nos_ctx {w : World} {s : Value} (h : NoS w s) : Calls Tryz.prog 36 #[s] w fun e w' => e = .returned (.pointer none) ∧ Below w.heap.size w w' := by
  have hlk := nos_look h
  have hf := fun W => set_f0 (.pointer none) (.map none) (.map none) W
  clear h
  go_enter Tryz.func36, Tryz.ntmps36
  go_wp2_with (first | (go_at_call 62; refine hlk.mono ?_; rintro e w2 ⟨rfl, hb2⟩) | (go_at_call 49; refine (copy_non _ _ (.inl rfl)).mono ?_; rintro e w3 ⟨rfl, rfl⟩))
  go_ret
  exact ⟨rfl, hb2⟩
set_option maxHeartbeats 2000000 in
theorem nos_gone {w : World} {s : Value} (h : NoS w s) (d : Dt) (hd : OkD d) : Calls Tryz.prog 24 #[s, .agg #[.int .i64 d.1, .int .u64 (d.2 : Int)]] w fun e w' => e = .returned (.bool false) ∧ Below w.heap.size w w' := by
  have L1 := fun W => look_none1 d hd W
  have h1 := h.below ((Below.refl _ _).alloc (Nat.le_refl _) (.cells #[.int .i64 d.1, .int .u64 (d.2 : Int)] 41))
  have hB := Blk.new w 41 #[.int .i64 d.1, .int .u64 (d.2 : Int)]
  have hb1 : Below w.heap.size w (w.alloc (.cells #[.int .i64 d.1, .int .u64 (d.2 : Int)] 41)) := (Below.refl _ _).alloc (Nat.le_refl _) _
  go_enter Tryz.func24, Tryz.ntmps24
  go_upto_region 1 with fail
  generalize w.alloc (.cells #[.int .i64 d.1, .int .u64 (d.2 : Int)] 41) = w1 at h1 hB hb1 ⊢
  clear h
  have hlk := nos_look h1
  go_upto_region 2 with (go_at_call 62; refine hlk.mono ?_; rintro e w2 ⟨rfl, hb2⟩)
  have hA : Below w2.heap.size w2 (w2.alloc (.cells #[.pointer none, .map none, .map none] 84)) := (Below.refl _ _).alloc (Nat.le_refl _) _
  have hS := Blk.new w2 84 #[.pointer none, .map none, .map none]
  have hB3 := (hB.below hb2 hB.lt).below hA (hB.below hb2 hB.lt).lt
  have hb3 := (hb1.trans (hb2.mono hb1.size)).trans (hA.mono (Nat.le_trans hb1.size hb2.size))
  obtain ⟨sb, hsb⟩ : ∃ s, s = w2.heap.size := ⟨_, rfl⟩
  change Code.wp _ _ _ _ (w2.alloc (.cells #[.pointer none, .map none, .map none] 84))
  generalize w2.alloc (.cells #[.pointer none, .map none, .map none] 84) = w3 at hS hB3 hb3 ⊢
  rw [← hsb] at hS ⊢
  clear hsb hA h1 hB hb1 hb2 hlk
  have s0 : w3.cell? ⟨sb, 0, none⟩ = some (.pointer none) := by rw [hS.cell]; rfl
  have s1 : w3.cell? ⟨sb, 1, none⟩ = some (.map none) := by rw [hS.cell]; rfl
  have d0 : w3.cell? ⟨w.heap.size, 0, none⟩ = some (.int .i64 d.1) := by rw [hB3.cell]; rfl
  have d1 : w3.cell? ⟨w.heap.size, 1, none⟩ = some (.int .u64 (d.2 : Int)) := by rw [hB3.cell]; rfl
  have l1 := L1 w3
  go_upto_region 3 with fail
  have hA4 : Below w3.heap.size w3 (w3.alloc (.cells #[.string ⟨#[]⟩, .string ⟨#[]⟩] 39)) := (Below.refl _ _).alloc (Nat.le_refl _) _
  have hb4 := hb3.trans (hA4.mono hb3.size)
  have hS4 := hS.below hA4 hS.lt
  have hB4 := hB3.below hA4 hB3.lt
  change Code.wp _ _ _ _ (w3.alloc (.cells #[.string ⟨#[]⟩, .string ⟨#[]⟩] 39))
  generalize w3.alloc (.cells #[.string ⟨#[]⟩, .string ⟨#[]⟩] 39) = w4 at hb4 hS4 hB4 ⊢
  clear s0 s1 d0 d1 l1 hA4 hb3 hS hB3
  have s0 : w4.cell? ⟨sb, 0, none⟩ = some (.pointer none) := by rw [hS4.cell]; rfl
  have d0 : w4.cell? ⟨w.heap.size, 0, none⟩ = some (.int .i64 d.1) := by rw [hB4.cell]; rfl
  have d1 : w4.cell? ⟨w.heap.size, 1, none⟩ = some (.int .u64 (d.2 : Int)) := by rw [hB4.cell]; rfl
  go_wp2_with (go_at_call 42; refine (has_non _ d w4 (.inl rfl)).mono ?_; rintro e w5 ⟨rfl, hg5⟩)
  go_ret
  exact ⟨rfl, hb4.trans (hg5.mono hb4.size)⟩
end Go.Proofs.YtldfaaahmpncbaaGreat

namespace Go.Proofs.YtldfaaahmpncbaaGreat
open Go.Maps Go.WideShapes Go.WideMaps
open Go.RowKit
open CtxM
set_option linter.unusedVariables false
set_option linter.unusedSimpArgs false
set_option maxRecDepth 20000

theorem info_key : (Tryz.prog.info? 39).map (·.size) = some 2 := by kernel_rfl
section
variable {w w' : World} {p g : Nat} {v : Value} {V : List Nat} {X : List Dt} {b1 b2 : Nat} {K : Kl} {T : Tl}
set_option maxHeartbeats 4000000 in
theorem olive_any (h : Os w p g v V X b1 b2 K T) (d : Dt) (hd : OkD d) : Calls Tryz.prog 22 #[.pointer (some ⟨p, 0, none⟩), .agg #[.int .i64 d.1, .int .u64 (d.2 : Int)]] w fun e w' => e = .returned (.tuple #[keyV (keyAt K d), .bool (decide (d ∈ K.map Prod.fst))]) ∧ Below w.heap.size w w' := by
  have hfo : Tryz.prog.follows .mixedOrders = true := by kernel_rfl
  obtain ⟨r1, hr1⟩ : ∃ r, r = decide (d ∈ K.map Prod.fst) := ⟨_, rfl⟩
  obtain ⟨kt, kv, hk⟩ : ∃ a b, keyAt K d = (a, b) := ⟨_, _, rfl⟩
  have L1 : ∀ W, Os W p g v V X b1 b2 K T → (Instr.lookup 81 (.map (some b1)) (.agg #[.int .i64 d.1, .int .u64 (d.2 : Int)]) true).run Tryz.prog W = .ok (.tuple #[.agg #[.string kt, .string kv], .bool r1]) W := fun W hW => by
    have := hW.ma.lookL hd
    rw [hk, ← hr1] at this
    exact this
  rw [hk, ← hr1]
  change Calls _ _ _ _ fun e w' => e = .returned (.tuple #[.agg #[.string kt, .string kv], .bool r1]) ∧ Below w.heap.size w w'
  clear hr1 hk
  have hf := fun W => set_f1 (.pointer (some ⟨g, 0, none⟩)) (.map (some b1)) (.map (some b2)) W
  have hbw : Below w.heap.size w ((w.alloc (.cells #[.int .i64 d.1, .int .u64 (d.2 : Int)] 41)).alloc (.cells #[.string ⟨#[]⟩, .string ⟨#[]⟩] 39)) := ((Below.refl _ _).alloc (Nat.le_refl _) _).alloc (by simp) _
  have h1 := h.below hbw
  have hB := (Blk.new w 41 #[.int .i64 d.1, .int .u64 (d.2 : Int)]).alloc (.cells #[.string ⟨#[]⟩, .string ⟨#[]⟩] 39)
  have hR := Blk.new (w.alloc (.cells #[.int .i64 d.1, .int .u64 (d.2 : Int)] 41)) 39 #[.string ⟨#[]⟩, .string ⟨#[]⟩]
  rw [show (w.alloc (.cells #[.int .i64 d.1, .int .u64 (d.2 : Int)] 41)).heap.size = w.heap.size + 1 by simp] at hR
  go_enter Tryz.func22, Tryz.ntmps22
  go_upto_region 1 with fail
  generalize (w.alloc (.cells #[.int .i64 d.1, .int .u64 (d.2 : Int)] 41)).alloc (.cells #[.string ⟨#[]⟩, .string ⟨#[]⟩] 39) = w1 at h1 hB hR hbw ⊢
  clear h
  refine wp_region_held_drew (S := fun X => Below w1.drew.heap.size w1.drew X) hfo (Below.refl _ _) (fun hS0 => ?_)
  have hZ : Os w1.drew p g v V X b1 b2 K T := h1.below (Below.refl _ _).drew
  have hBZ : Blk w1.drew w.heap.size 41 #[.int .i64 d.1, .int .u64 (d.2 : Int)] := hB
  have hRZ : Blk w1.drew (w.heap.size + 1) 39 #[.string ⟨#[]⟩, .string ⟨#[]⟩] := hR
  have hbZ : Below w.heap.size w w1.drew := hbw.drew
  clear h1 hB hR hbw
  generalize w1.drew = Z0 at hS0 hZ hBZ hRZ hbZ ⊢
  refine' wpAnyH_take (i := 0) (oi := ⟨some 9, _, _, _, _, _⟩) (v := _) rfl (by kernel_rfl) (by kernel_rfl) (by kernel_rfl) (fun _ _ _ h => h) (Or.inl ⟨by rfl, ?y0a⟩) hS0 ?r0a
  case y0a => (intro w' hSw; go_simp; try rfl)
  try simp only [Act.put, List.setIfInBounds_toArray, List.set_cons_zero, List.set_cons_succ]
  refine' wpAnyH_take (i := 3) (oi := ⟨some 12, _, _, _, _, _⟩) (v := _) rfl (by kernel_rfl) (by kernel_rfl) (by kernel_rfl) (fun _ _ _ h => h) (Or.inl ⟨by rfl, ?y3a⟩) hS0 ?r3a
  case y3a => (intro w' hSw; have hO := hZ.below hSw; have q4 := L1 _ hO; have hD := hBZ.below hSw hBZ.lt; have d0 : w'.cell? ⟨w.heap.size, 0, none⟩ = some (.int .i64 d.1) := (by rw [hD.cell]; rfl); have d1 : w'.cell? ⟨w.heap.size, 1, none⟩ = some (.int .u64 (d.2 : Int)) := (by rw [hD.cell]; rfl); go_simp; try rfl)
  try simp only [Act.put, List.setIfInBounds_toArray, List.set_cons_zero, List.set_cons_succ]
  refine held_two (i := 1) (j := 8) (by kernel_rfl) rfl rfl ?kC ?kD
  case kC =>
    intro Kq hK
    go_simp
    refine (olook_any hZ).mono ?_
    rintro e Z1 ⟨rfl, kb⟩
    refine hK.out _ _ kb (fun _ => ?_)
    clear hK Kq
    try simp only [Act.put, List.setIfInBounds_toArray, List.set_cons_zero, List.set_cons_succ]
    refine' wpAnyH_take (i := 2) (oi := ⟨some 11, _, _, _, _, _⟩) (v := _) rfl (by kernel_rfl) (by kernel_rfl) (by kernel_rfl) (fun _ _ _ h => h) (Or.inl ⟨by rfl, ?y2b⟩) kb ?r2b
    case y2b => (intro w' hSw; go_simp; try rfl)
    try simp only [Act.put, List.setIfInBounds_toArray, List.set_cons_zero, List.set_cons_succ]
    refine' wpAnyH_take (i := 4) (oi := ⟨some 13, _, _, _, _, _⟩) (v := _) rfl (by kernel_rfl) (by kernel_rfl) (by kernel_rfl) (fun _ _ _ h => h) (Or.inl ⟨by rfl, ?y4b⟩) kb ?r4b
    case y4b => (intro w' hSw; have hO := hZ.below hSw; have q4 := L1 _ hO; have hD := hBZ.below hSw hBZ.lt; have d0 : w'.cell? ⟨w.heap.size, 0, none⟩ = some (.int .i64 d.1) := (by rw [hD.cell]; rfl); have d1 : w'.cell? ⟨w.heap.size, 1, none⟩ = some (.int .u64 (d.2 : Int)) := (by rw [hD.cell]; rfl); go_simp; try rfl)
    try simp only [Act.put, List.setIfInBounds_toArray, List.set_cons_zero, List.set_cons_succ]
    refine' wpAnyH_take (i := 5) (oi := ⟨some 8, _, _, _, _, _⟩) (v := _) rfl (by kernel_rfl) (by kernel_rfl) (by kernel_rfl) (fun _ _ _ h => h) (Or.inl ⟨by rfl, ?y5b⟩) kb ?r5b
    case y5b => (intro w' hSw; go_simp; try rfl)
    try simp only [Act.put, List.setIfInBounds_toArray, List.set_cons_zero, List.set_cons_succ]
    refine' wpAnyH_take (i := 6) (oi := ⟨some 14, _, _, _, _, _⟩) (v := _) rfl (by kernel_rfl) (by kernel_rfl) (by kernel_rfl) (fun _ _ _ h => h) (Or.inl ⟨by rfl, ?y6b⟩) kb ?r6b
    case y6b => (intro w' hSw; go_simp; try rfl)
    try simp only [Act.put, List.setIfInBounds_toArray, List.set_cons_zero, List.set_cons_succ]
    refine' wpAnyH_take (i := 7) (oi := ⟨some 15, _, _, _, _, _⟩) (v := _) rfl (by kernel_rfl) (by kernel_rfl) (by kernel_rfl) (fun _ _ _ h => h) (Or.inl ⟨by rfl, ?y7b⟩) kb ?r7b
    case y7b => (intro w' hSw; go_simp; try rfl)
    try simp only [Act.put, List.setIfInBounds_toArray, List.set_cons_zero, List.set_cons_succ]
    have hA : Below Z1.heap.size Z1 (Z1.alloc (.cells #[.string ⟨#[]⟩, .string ⟨#[]⟩] 39)) := (Below.refl _ _).alloc (Nat.le_refl _) _
    have kA := kb.trans (hA.mono kb.size)
    refine held_one (i := 8) (by kernel_rfl) rfl (fun Kb hK => ?_)
    go_simp
    refine hK.out _ _ kA (fun _ => ?_)
    clear hK Kb
    try simp only [Act.put, List.setIfInBounds_toArray, List.set_cons_zero, List.set_cons_succ]
    have hA2 : Below Z1.heap.size Z1 (Z1.alloc (.cells #[.string kt, .string kv] 39)) := (Below.refl _ _).alloc (Nat.le_refl _) _
    have kA2 := kb.trans (hA2.mono kb.size)
    refine held_one (i := 9) (by kernel_rfl) rfl (fun Kb hK => ?_)
    go_simp
    refine hK.out _ _ kA2 (fun _ => ?_)
    clear hK Kb
    try simp only [Act.put, List.setIfInBounds_toArray, List.set_cons_zero, List.set_cons_succ]
    refine' wpAnyH_take (i := 10) (oi := ⟨some 7, _, _, _, _, _⟩) (v := _) rfl (by kernel_rfl) (by kernel_rfl) (by kernel_rfl) (fun _ _ _ h => h) (Or.inl ⟨by rfl, ?y10b⟩) kA2 ?r10b
    case y10b => (intro w' hSw; go_simp; try rfl)
    try simp only [Act.put, List.setIfInBounds_toArray, List.set_cons_zero, List.set_cons_succ]
    refine wpAnyH_done (by kernel_rfl) ?_ _
    have hKB := Blk.new Z1 39 #[.string kt, .string kv]
    have hR2 := hRZ.below kA2 hRZ.lt
    have hb2 := hbZ.trans (kA2.mono hbZ.size)
    go_upto_region 2 with fail
    obtain ⟨kb_, hkb⟩ : ∃ s, s = Z1.heap.size := ⟨_, rfl⟩
    clear hA kA hA2 kA2 kb hS0 hZ hBZ hRZ hbZ
    generalize Z1.alloc (.cells #[.string kt, .string kv] 39) = w3 at hKB hR2 hb2 ⊢
    rw [← hkb] at hKB ⊢
    clear hkb
    have k0 : w3.cell? ⟨kb_, 0, none⟩ = some (.string kt) := by rw [hKB.cell]; rfl
    have k1 : w3.cell? ⟨kb_, 1, none⟩ = some (.string kv) := by rw [hKB.cell]; rfl
    have r0_ : w3.cell? ⟨w.heap.size + 1, 0, none⟩ = some (.string ⟨#[]⟩) := by rw [hR2.cell]; rfl
    have z0 := hR2.frozen 0
    have r1_ : w3.cell? ⟨w.heap.size + 1, 1, none⟩ = some (.string ⟨#[]⟩) := by rw [hR2.cell]; rfl
    have z1 := hR2.frozen 1
    have hF := (hR2.set_ 0 (.string kt)).set_ 1 (.string kv)
    have hgF := grown_setCells (w.heap.size + 1) [.string kt, .string kv] 0 w3
    go_wp2
    exact bodyPost_ret (v := .tuple #[.agg #[.string kt, .string kv], .bool r1]) (results_row_tmp rfl _ _ (w.heap.size + 1) 39 #[.string kt, .string kv] (0, 0) _ (.bool r1) rfl rfl hF Tryz.underlying39 rfl info_key) rfl ⟨rfl, Below.only hb2 hgF (Nat.le_succ _) hb2.size⟩
  case kD =>
    intro Kq hK
    go_simp
    have hA : Below Z0.heap.size Z0 (Z0.alloc (.cells #[.string ⟨#[]⟩, .string ⟨#[]⟩] 39)) := (Below.refl _ _).alloc (Nat.le_refl _) _
    refine hK.out _ _ hA (fun _ => ?_)
    clear hK Kq
    try simp only [Act.put, List.setIfInBounds_toArray, List.set_cons_zero, List.set_cons_succ]
    have hKA := Blk.new Z0 39 #[.string ⟨#[]⟩, .string ⟨#[]⟩]
    refine held_one (i := 1) (by kernel_rfl) rfl (fun Kc hK => ?_)
    go_simp
    refine (olook_any (hZ.below hA)).mono ?_
    rintro e Z1 ⟨rfl, kb1⟩
    have kb := hA.trans (kb1.mono hA.size)
    have hK1 := hKA.below kb1 hKA.lt
    refine hK.out _ _ kb (fun _ => ?_)
    clear hK Kc
    try simp only [Act.put, List.setIfInBounds_toArray, List.set_cons_zero, List.set_cons_succ]
    refine' wpAnyH_take (i := 2) (oi := ⟨some 11, _, _, _, _, _⟩) (v := _) rfl (by kernel_rfl) (by kernel_rfl) (by kernel_rfl) (fun _ _ _ h => h) (Or.inl ⟨by rfl, ?y2c⟩) kb ?r2c
    case y2c => (intro w' hSw; go_simp; try rfl)
    try simp only [Act.put, List.setIfInBounds_toArray, List.set_cons_zero, List.set_cons_succ]
    refine' wpAnyH_take (i := 4) (oi := ⟨some 13, _, _, _, _, _⟩) (v := _) rfl (by kernel_rfl) (by kernel_rfl) (by kernel_rfl) (fun _ _ _ h => h) (Or.inl ⟨by rfl, ?y4c⟩) kb ?r4c
    case y4c => (intro w' hSw; have hO := hZ.below hSw; have q4 := L1 _ hO; have hD := hBZ.below hSw hBZ.lt; have d0 : w'.cell? ⟨w.heap.size, 0, none⟩ = some (.int .i64 d.1) := (by rw [hD.cell]; rfl); have d1 : w'.cell? ⟨w.heap.size, 1, none⟩ = some (.int .u64 (d.2 : Int)) := (by rw [hD.cell]; rfl); go_simp; try rfl)
    try simp only [Act.put, List.setIfInBounds_toArray, List.set_cons_zero, List.set_cons_succ]
    refine' wpAnyH_take (i := 5) (oi := ⟨some 8, _, _, _, _, _⟩) (v := _) rfl (by kernel_rfl) (by kernel_rfl) (by kernel_rfl) (fun _ _ _ h => h) (Or.inl ⟨by rfl, ?y5c⟩) kb ?r5c
    case y5c => (intro w' hSw; go_simp; try rfl)
    try simp only [Act.put, List.setIfInBounds_toArray, List.set_cons_zero, List.set_cons_succ]
    refine' wpAnyH_take (i := 6) (oi := ⟨some 14, _, _, _, _, _⟩) (v := _) rfl (by kernel_rfl) (by kernel_rfl) (by kernel_rfl) (fun _ _ _ h => h) (Or.inl ⟨by rfl, ?y6c⟩) kb ?r6c
    case y6c => (intro w' hSw; go_simp; try rfl)
    try simp only [Act.put, List.setIfInBounds_toArray, List.set_cons_zero, List.set_cons_succ]
    refine' wpAnyH_take (i := 7) (oi := ⟨some 15, _, _, _, _, _⟩) (v := _) rfl (by kernel_rfl) (by kernel_rfl) (by kernel_rfl) (fun _ _ _ h => h) (Or.inl ⟨by rfl, ?y7c⟩) kb ?r7c
    case y7c => (intro w' hSw; go_simp; try rfl)
    try simp only [Act.put, List.setIfInBounds_toArray, List.set_cons_zero, List.set_cons_succ]
    have u0 : Z1.cell? ⟨Z0.heap.size, 0, none⟩ = some (.string ⟨#[]⟩) := by rw [hK1.cell]; rfl
    have z0 := hK1.frozen 0
    have u1 : Z1.cell? ⟨Z0.heap.size, 1, none⟩ = some (.string ⟨#[]⟩) := by rw [hK1.cell]; rfl
    have z1 := hK1.frozen 1
    have kA2 := Below.only kb (grown_setCells Z0.heap.size [.string kt, .string kv] 0 Z1) (Nat.le_refl _) kb.size
    refine held_one (i := 9) (by kernel_rfl) rfl (fun Kc hK => ?_)
    go_simp
    refine hK.out _ _ kA2 (fun _ => ?_)
    clear hK Kc
    try simp only [Act.put, List.setIfInBounds_toArray, List.set_cons_zero, List.set_cons_succ]
    refine' wpAnyH_take (i := 10) (oi := ⟨some 7, _, _, _, _, _⟩) (v := _) rfl (by kernel_rfl) (by kernel_rfl) (by kernel_rfl) (fun _ _ _ h => h) (Or.inl ⟨by rfl, ?y10c⟩) kA2 ?r10c
    case y10c => (intro w' hSw; go_simp; try rfl)
    try simp only [Act.put, List.setIfInBounds_toArray, List.set_cons_zero, List.set_cons_succ]
    refine wpAnyH_done (by kernel_rfl) ?_ _
    have hKB : Blk (Z1.setCells Z0.heap.size 0 [.string kt, .string kv]) Z0.heap.size 39 #[.string kt, .string kv] := (hK1.set_ 0 _).set_ 1 _
    have hR2 := hRZ.below kA2 hRZ.lt
    have hb2 := hbZ.trans (kA2.mono hbZ.size)
    go_upto_region 2 with fail
    change Code.wp _ _ _ _ (Z1.setCells Z0.heap.size 0 [.string kt, .string kv])
    obtain ⟨kb_, hkb⟩ : ∃ s, s = Z0.heap.size := ⟨_, rfl⟩
    clear u0 u1 z0 z1 hA hKA kA2 kb kb1 hK1 hS0 hZ hBZ hRZ hbZ
    generalize Z1.setCells Z0.heap.size 0 [.string kt, .string kv] = w3 at hKB hR2 hb2 ⊢
    rw [← hkb] at hKB ⊢
    clear hkb
    have k0 : w3.cell? ⟨kb_, 0, none⟩ = some (.string kt) := by rw [hKB.cell]; rfl
    have k1 : w3.cell? ⟨kb_, 1, none⟩ = some (.string kv) := by rw [hKB.cell]; rfl
    have r0_ : w3.cell? ⟨w.heap.size + 1, 0, none⟩ = some (.string ⟨#[]⟩) := by rw [hR2.cell]; rfl
    have z0 := hR2.frozen 0
    have r1_ : w3.cell? ⟨w.heap.size + 1, 1, none⟩ = some (.string ⟨#[]⟩) := by rw [hR2.cell]; rfl
    have z1 := hR2.frozen 1
    have hF := (hR2.set_ 0 (.string kt)).set_ 1 (.string kv)
    have hgF := grown_setCells (w.heap.size + 1) [.string kt, .string kv] 0 w3
    go_wp2
    exact bodyPost_ret (v := .tuple #[.agg #[.string kt, .string kv], .bool r1]) (results_row_tmp rfl _ _ (w.heap.size + 1) 39 #[.string kt, .string kv] (0, 0) _ (.bool r1) rfl rfl hF Tryz.underlying39 rfl info_key) rfl ⟨rfl, Below.only hb2 hgF (Nat.le_succ _) hb2.size⟩
end
end Go.Proofs.YtldfaaahmpncbaaGreat

namespace Go.Proofs.YtldfaaahmpncbaaGreat
open Go.Maps Go.WideShapes Go.WideMaps
open Go.RowKit
open CtxM
set_option linter.unusedVariables false
set_option linter.unusedSimpArgs false
set_option maxRecDepth 20000

theorem info_key_ : (Tryz.prog.info? 39).map (·.size) = some 2 := by kernel_rfl
section
variable {w w' : World} {s : Value}
set_option maxHeartbeats 4000000 in
theorem nos_live (h : NoS w s) (d : Dt) (hd : OkD d) : Calls Tryz.prog 22 #[s, .agg #[.int .i64 d.1, .int .u64 (d.2 : Int)]] w fun e w' => e = .returned (.tuple #[.agg #[.string ⟨#[]⟩, .string ⟨#[]⟩], .bool false]) ∧ Below w.heap.size w w' := by
  have hfo : Tryz.prog.follows .mixedOrders = true := by kernel_rfl
  have L1 := fun (W : World) (_ : NoS W s) => look_none1 d hd W
  have hf := fun W => set_f1 (.pointer none) (.map none) (.map none) W
  have hbw : Below w.heap.size w ((w.alloc (.cells #[.int .i64 d.1, .int .u64 (d.2 : Int)] 41)).alloc (.cells #[.string ⟨#[]⟩, .string ⟨#[]⟩] 39)) := ((Below.refl _ _).alloc (Nat.le_refl _) _).alloc (by simp) _
  have h1 := h.below hbw
  have hB := (Blk.new w 41 #[.int .i64 d.1, .int .u64 (d.2 : Int)]).alloc (.cells #[.string ⟨#[]⟩, .string ⟨#[]⟩] 39)
  have hR := Blk.new (w.alloc (.cells #[.int .i64 d.1, .int .u64 (d.2 : Int)] 41)) 39 #[.string ⟨#[]⟩, .string ⟨#[]⟩]
  rw [show (w.alloc (.cells #[.int .i64 d.1, .int .u64 (d.2 : Int)] 41)).heap.size = w.heap.size + 1 by simp] at hR
  go_enter Tryz.func22, Tryz.ntmps22
  go_upto_region 1 with fail
  generalize (w.alloc (.cells #[.int .i64 d.1, .int .u64 (d.2 : Int)] 41)).alloc (.cells #[.string ⟨#[]⟩, .string ⟨#[]⟩] 39) = w1 at h1 hB hR hbw ⊢
  clear h
  refine wp_region_held_drew (S := fun X => Below w1.drew.heap.size w1.drew X) hfo (Below.refl _ _) (fun hS0 => ?_)
  have hZ : NoS w1.drew s := h1.below (Below.refl _ _).drew
  have hBZ : Blk w1.drew w.heap.size 41 #[.int .i64 d.1, .int .u64 (d.2 : Int)] := hB
  have hRZ : Blk w1.drew (w.heap.size + 1) 39 #[.string ⟨#[]⟩, .string ⟨#[]⟩] := hR
  have hbZ : Below w.heap.size w w1.drew := hbw.drew
  clear h1 hB hR hbw
  generalize w1.drew = Z0 at hS0 hZ hBZ hRZ hbZ ⊢
  refine' wpAnyH_take (i := 0) (oi := ⟨some 9, _, _, _, _, _⟩) (v := _) rfl (by kernel_rfl) (by kernel_rfl) (by kernel_rfl) (fun _ _ _ h => h) (Or.inl ⟨by rfl, ?y0a⟩) hS0 ?r0a
  case y0a => (intro w' hSw; go_simp; try rfl)
  try simp only [Act.put, List.setIfInBounds_toArray, List.set_cons_zero, List.set_cons_succ]
  refine' wpAnyH_take (i := 3) (oi := ⟨some 12, _, _, _, _, _⟩) (v := _) rfl (by kernel_rfl) (by kernel_rfl) (by kernel_rfl) (fun _ _ _ h => h) (Or.inl ⟨by rfl, ?y3a⟩) hS0 ?r3a
  case y3a => (intro w' hSw; have hO := hZ.below hSw; have q4 := L1 _ hO; have hD := hBZ.below hSw hBZ.lt; have d0 : w'.cell? ⟨w.heap.size, 0, none⟩ = some (.int .i64 d.1) := (by rw [hD.cell]; rfl); have d1 : w'.cell? ⟨w.heap.size, 1, none⟩ = some (.int .u64 (d.2 : Int)) := (by rw [hD.cell]; rfl); go_simp; try rfl)
  try simp only [Act.put, List.setIfInBounds_toArray, List.set_cons_zero, List.set_cons_succ]
  refine held_two (i := 1) (j := 8) (by kernel_rfl) rfl rfl ?kC ?kD
  case kC =>
    intro Kq hK
    go_simp
    refine (nos_look hZ).mono ?_
    rintro e Z1 ⟨rfl, kb⟩
    refine hK.out _ _ kb (fun _ => ?_)
    clear hK Kq
    try simp only [Act.put, List.setIfInBounds_toArray, List.set_cons_zero, List.set_cons_succ]
    refine' wpAnyH_take (i := 2) (oi := ⟨some 11, _, _, _, _, _⟩) (v := _) rfl (by kernel_rfl) (by kernel_rfl) (by kernel_rfl) (fun _ _ _ h => h) (Or.inl ⟨by rfl, ?y2b⟩) kb ?r2b
    case y2b => (intro w' hSw; go_simp; try rfl)
    try simp only [Act.put, List.setIfInBounds_toArray, List.set_cons_zero, List.set_cons_succ]
    refine' wpAnyH_take (i := 4) (oi := ⟨some 13, _, _, _, _, _⟩) (v := _) rfl (by kernel_rfl) (by kernel_rfl) (by kernel_rfl) (fun _ _ _ h => h) (Or.inl ⟨by rfl, ?y4b⟩) kb ?r4b
    case y4b => (intro w' hSw; have hO := hZ.below hSw; have q4 := L1 _ hO; have hD := hBZ.below hSw hBZ.lt; have d0 : w'.cell? ⟨w.heap.size, 0, none⟩ = some (.int .i64 d.1) := (by rw [hD.cell]; rfl); have d1 : w'.cell? ⟨w.heap.size, 1, none⟩ = some (.int .u64 (d.2 : Int)) := (by rw [hD.cell]; rfl); go_simp; try rfl)
    try simp only [Act.put, List.setIfInBounds_toArray, List.set_cons_zero, List.set_cons_succ]
    refine' wpAnyH_take (i := 5) (oi := ⟨some 8, _, _, _, _, _⟩) (v := _) rfl (by kernel_rfl) (by kernel_rfl) (by kernel_rfl) (fun _ _ _ h => h) (Or.inl ⟨by rfl, ?y5b⟩) kb ?r5b
    case y5b => (intro w' hSw; go_simp; try rfl)
    try simp only [Act.put, List.setIfInBounds_toArray, List.set_cons_zero, List.set_cons_succ]
    refine' wpAnyH_take (i := 6) (oi := ⟨some 14, _, _, _, _, _⟩) (v := _) rfl (by kernel_rfl) (by kernel_rfl) (by kernel_rfl) (fun _ _ _ h => h) (Or.inl ⟨by rfl, ?y6b⟩) kb ?r6b
    case y6b => (intro w' hSw; go_simp; try rfl)
    try simp only [Act.put, List.setIfInBounds_toArray, List.set_cons_zero, List.set_cons_succ]
    refine' wpAnyH_take (i := 7) (oi := ⟨some 15, _, _, _, _, _⟩) (v := _) rfl (by kernel_rfl) (by kernel_rfl) (by kernel_rfl) (fun _ _ _ h => h) (Or.inl ⟨by rfl, ?y7b⟩) kb ?r7b
    case y7b => (intro w' hSw; go_simp; try rfl)
    try simp only [Act.put, List.setIfInBounds_toArray, List.set_cons_zero, List.set_cons_succ]
    have hA : Below Z1.heap.size Z1 (Z1.alloc (.cells #[.string ⟨#[]⟩, .string ⟨#[]⟩] 39)) := (Below.refl _ _).alloc (Nat.le_refl _) _
    have kA := kb.trans (hA.mono kb.size)
    refine held_one (i := 8) (by kernel_rfl) rfl (fun Kb hK => ?_)
    go_simp
    refine hK.out _ _ kA (fun _ => ?_)
    clear hK Kb
    try simp only [Act.put, List.setIfInBounds_toArray, List.set_cons_zero, List.set_cons_succ]
    have hA2 : Below Z1.heap.size Z1 (Z1.alloc (.cells #[.string ⟨#[]⟩, .string ⟨#[]⟩] 39)) := (Below.refl _ _).alloc (Nat.le_refl _) _
    have kA2 := kb.trans (hA2.mono kb.size)
    refine held_one (i := 9) (by kernel_rfl) rfl (fun Kb hK => ?_)
    go_simp
    refine hK.out _ _ kA2 (fun _ => ?_)
    clear hK Kb
    try simp only [Act.put, List.setIfInBounds_toArray, List.set_cons_zero, List.set_cons_succ]
    refine' wpAnyH_take (i := 10) (oi := ⟨some 7, _, _, _, _, _⟩) (v := _) rfl (by kernel_rfl) (by kernel_rfl) (by kernel_rfl) (fun _ _ _ h => h) (Or.inl ⟨by rfl, ?y10b⟩) kA2 ?r10b
    case y10b => (intro w' hSw; go_simp; try rfl)
    try simp only [Act.put, List.setIfInBounds_toArray, List.set_cons_zero, List.set_cons_succ]
    refine wpAnyH_done (by kernel_rfl) ?_ _
    have hKB := Blk.new Z1 39 #[.string ⟨#[]⟩, .string ⟨#[]⟩]
    have hR2 := hRZ.below kA2 hRZ.lt
    have hb2 := hbZ.trans (kA2.mono hbZ.size)
    go_upto_region 2 with fail
    obtain ⟨kb_, hkb⟩ : ∃ n, n = Z1.heap.size := ⟨_, rfl⟩
    clear hA kA hA2 kA2 kb hS0 hZ hBZ hRZ hbZ
    generalize Z1.alloc (.cells #[.string ⟨#[]⟩, .string ⟨#[]⟩] 39) = w3 at hKB hR2 hb2 ⊢
    rw [← hkb] at hKB ⊢
    clear hkb
    have k0 : w3.cell? ⟨kb_, 0, none⟩ = some (.string ⟨#[]⟩) := by rw [hKB.cell]; rfl
    have k1 : w3.cell? ⟨kb_, 1, none⟩ = some (.string ⟨#[]⟩) := by rw [hKB.cell]; rfl
    have r0_ : w3.cell? ⟨w.heap.size + 1, 0, none⟩ = some (.string ⟨#[]⟩) := by rw [hR2.cell]; rfl
    have z0 := hR2.frozen 0
    have r1_ : w3.cell? ⟨w.heap.size + 1, 1, none⟩ = some (.string ⟨#[]⟩) := by rw [hR2.cell]; rfl
    have z1 := hR2.frozen 1
    have hF := (hR2.set_ 0 (.string ⟨#[]⟩)).set_ 1 (.string ⟨#[]⟩)
    have hgF := grown_setCells (w.heap.size + 1) [.string ⟨#[]⟩, .string ⟨#[]⟩] 0 w3
    go_wp2
    exact bodyPost_ret (v := .tuple #[.agg #[.string ⟨#[]⟩, .string ⟨#[]⟩], .bool false]) (results_row_tmp rfl _ _ (w.heap.size + 1) 39 #[.string ⟨#[]⟩, .string ⟨#[]⟩] (0, 0) _ (.bool false) rfl rfl hF Tryz.underlying39 rfl info_key_) rfl ⟨rfl, Below.only hb2 hgF (Nat.le_succ _) hb2.size⟩
  case kD =>
    intro Kq hK
    go_simp
    have hA : Below Z0.heap.size Z0 (Z0.alloc (.cells #[.string ⟨#[]⟩, .string ⟨#[]⟩] 39)) := (Below.refl _ _).alloc (Nat.le_refl _) _
    refine hK.out _ _ hA (fun _ => ?_)
    clear hK Kq
    try simp only [Act.put, List.setIfInBounds_toArray, List.set_cons_zero, List.set_cons_succ]
    have hKA := Blk.new Z0 39 #[.string ⟨#[]⟩, .string ⟨#[]⟩]
    refine held_one (i := 1) (by kernel_rfl) rfl (fun Kc hK => ?_)
    go_simp
    refine (nos_look (hZ.below hA)).mono ?_
    rintro e Z1 ⟨rfl, kb1⟩
    have kb := hA.trans (kb1.mono hA.size)
    have hK1 := hKA.below kb1 hKA.lt
    refine hK.out _ _ kb (fun _ => ?_)
    clear hK Kc
    try simp only [Act.put, List.setIfInBounds_toArray, List.set_cons_zero, List.set_cons_succ]
    refine' wpAnyH_take (i := 2) (oi := ⟨some 11, _, _, _, _, _⟩) (v := _) rfl (by kernel_rfl) (by kernel_rfl) (by kernel_rfl) (fun _ _ _ h => h) (Or.inl ⟨by rfl, ?y2c⟩) kb ?r2c
    case y2c => (intro w' hSw; go_simp; try rfl)
    try simp only [Act.put, List.setIfInBounds_toArray, List.set_cons_zero, List.set_cons_succ]
    refine' wpAnyH_take (i := 4) (oi := ⟨some 13, _, _, _, _, _⟩) (v := _) rfl (by kernel_rfl) (by kernel_rfl) (by kernel_rfl) (fun _ _ _ h => h) (Or.inl ⟨by rfl, ?y4c⟩) kb ?r4c
    case y4c => (intro w' hSw; have hO := hZ.below hSw; have q4 := L1 _ hO; have hD := hBZ.below hSw hBZ.lt; have d0 : w'.cell? ⟨w.heap.size, 0, none⟩ = some (.int .i64 d.1) := (by rw [hD.cell]; rfl); have d1 : w'.cell? ⟨w.heap.size, 1, none⟩ = some (.int .u64 (d.2 : Int)) := (by rw [hD.cell]; rfl); go_simp; try rfl)
    try simp only [Act.put, List.setIfInBounds_toArray, List.set_cons_zero, List.set_cons_succ]
    refine' wpAnyH_take (i := 5) (oi := ⟨some 8, _, _, _, _, _⟩) (v := _) rfl (by kernel_rfl) (by kernel_rfl) (by kernel_rfl) (fun _ _ _ h => h) (Or.inl ⟨by rfl, ?y5c⟩) kb ?r5c
    case y5c => (intro w' hSw; go_simp; try rfl)
    try simp only [Act.put, List.setIfInBounds_toArray, List.set_cons_zero, List.set_cons_succ]
    refine' wpAnyH_take (i := 6) (oi := ⟨some 14, _, _, _, _, _⟩) (v := _) rfl (by kernel_rfl) (by kernel_rfl) (by kernel_rfl) (fun _ _ _ h => h) (Or.inl ⟨by rfl, ?y6c⟩) kb ?r6c
    case y6c => (intro w' hSw; go_simp; try rfl)
    try simp only [Act.put, List.setIfInBounds_toArray, List.set_cons_zero, List.set_cons_succ]
    refine' wpAnyH_take (i := 7) (oi := ⟨some 15, _, _, _, _, _⟩) (v := _) rfl (by kernel_rfl) (by kernel_rfl) (by kernel_rfl) (fun _ _ _ h => h) (Or.inl ⟨by rfl, ?y7c⟩) kb ?r7c
    case y7c => (intro w' hSw; go_simp; try rfl)
    try simp only [Act.put, List.setIfInBounds_toArray, List.set_cons_zero, List.set_cons_succ]
    have u0 : Z1.cell? ⟨Z0.heap.size, 0, none⟩ = some (.string ⟨#[]⟩) := by rw [hK1.cell]; rfl
    have z0 := hK1.frozen 0
    have u1 : Z1.cell? ⟨Z0.heap.size, 1, none⟩ = some (.string ⟨#[]⟩) := by rw [hK1.cell]; rfl
    have z1 := hK1.frozen 1
    have kA2 := Below.only kb (grown_setCells Z0.heap.size [.string ⟨#[]⟩, .string ⟨#[]⟩] 0 Z1) (Nat.le_refl _) kb.size
    refine held_one (i := 9) (by kernel_rfl) rfl (fun Kc hK => ?_)
    go_simp
    refine hK.out _ _ kA2 (fun _ => ?_)
    clear hK Kc
    try simp only [Act.put, List.setIfInBounds_toArray, List.set_cons_zero, List.set_cons_succ]
    refine' wpAnyH_take (i := 10) (oi := ⟨some 7, _, _, _, _, _⟩) (v := _) rfl (by kernel_rfl) (by kernel_rfl) (by kernel_rfl) (fun _ _ _ h => h) (Or.inl ⟨by rfl, ?y10c⟩) kA2 ?r10c
    case y10c => (intro w' hSw; go_simp; try rfl)
    try simp only [Act.put, List.setIfInBounds_toArray, List.set_cons_zero, List.set_cons_succ]
    refine wpAnyH_done (by kernel_rfl) ?_ _
    have hKB : Blk (Z1.setCells Z0.heap.size 0 [.string ⟨#[]⟩, .string ⟨#[]⟩]) Z0.heap.size 39 #[.string ⟨#[]⟩, .string ⟨#[]⟩] := (hK1.set_ 0 _).set_ 1 _
    have hR2 := hRZ.below kA2 hRZ.lt
    have hb2 := hbZ.trans (kA2.mono hbZ.size)
    go_upto_region 2 with fail
    change Code.wp _ _ _ _ (Z1.setCells Z0.heap.size 0 [.string ⟨#[]⟩, .string ⟨#[]⟩])
    obtain ⟨kb_, hkb⟩ : ∃ n, n = Z0.heap.size := ⟨_, rfl⟩
    clear u0 u1 z0 z1 hA hKA kA2 kb kb1 hK1 hS0 hZ hBZ hRZ hbZ
    generalize Z1.setCells Z0.heap.size 0 [.string ⟨#[]⟩, .string ⟨#[]⟩] = w3 at hKB hR2 hb2 ⊢
    rw [← hkb] at hKB ⊢
    clear hkb
    have k0 : w3.cell? ⟨kb_, 0, none⟩ = some (.string ⟨#[]⟩) := by rw [hKB.cell]; rfl
    have k1 : w3.cell? ⟨kb_, 1, none⟩ = some (.string ⟨#[]⟩) := by rw [hKB.cell]; rfl
    have r0_ : w3.cell? ⟨w.heap.size + 1, 0, none⟩ = some (.string ⟨#[]⟩) := by rw [hR2.cell]; rfl
    have z0 := hR2.frozen 0
    have r1_ : w3.cell? ⟨w.heap.size + 1, 1, none⟩ = some (.string ⟨#[]⟩) := by rw [hR2.cell]; rfl
    have z1 := hR2.frozen 1
    have hF := (hR2.set_ 0 (.string ⟨#[]⟩)).set_ 1 (.string ⟨#[]⟩)
    have hgF := grown_setCells (w.heap.size + 1) [.string ⟨#[]⟩, .string ⟨#[]⟩] 0 w3
    go_wp2
    exact bodyPost_ret (v := .tuple #[.agg #[.string ⟨#[]⟩, .string ⟨#[]⟩], .bool false]) (results_row_tmp rfl _ _ (w.heap.size + 1) 39 #[.string ⟨#[]⟩, .string ⟨#[]⟩] (0, 0) _ (.bool false) rfl rfl hF Tryz.underlying39 rfl info_key_) rfl ⟨rfl, Below.only hb2 hgF (Nat.le_succ _) hb2.size⟩
end
end Go.Proofs.YtldfaaahmpncbaaGreat

namespace Go.Proofs.YtldfaaahmpncbaaGreat
open Go.Maps Go.WideShapes Go.WideMaps
open Go.RowKit
open CtxM
set_option linter.unusedVariables false
set_option linter.unusedSimpArgs false
set_option maxRecDepth 20000

section
variable {w w' : World} {p g : Nat} {v : Value} {V : List Nat} {X : List Dt} {b1 b2 : Nat} {K : Kl} {T : Tl}
set_option maxHeartbeats 1000000 in
theorem obucket_low (h : Os w p g v V X b1 b2 K T) (n : Int) (hn : n < 0) : Calls Tryz.prog 32 #[.pointer (some ⟨p, 0, none⟩), .int .i64 n] w fun e w' => e = .returned (.tuple #[.slice none 0 0, .int .i64 2]) ∧ Below w.heap.size w w' := by
  have hb1 : Below w.heap.size w (w.alloc (.cells #[.int .i64 n] 3)) := (Below.refl _ _).alloc (Nat.le_refl _) _
  have hq := onone_any (h.below hb1)
  have k1 : decide (n < 0) = true := decide_eq_true hn
  clear h
  go_enter Tryz.func32, Tryz.ntmps32
  go_wp2_with (go_at_call 48; refine hq.mono ?_; rintro e wn ⟨rfl, rfl⟩)
  go_ret2
  exact ⟨rfl, hb1⟩
set_option maxHeartbeats 1000000 in
theorem obucket_high (h : Os w p g v V X b1 b2 K T) (n : Int) (hn : 64 ≤ n) : Calls Tryz.prog 32 #[.pointer (some ⟨p, 0, none⟩), .int .i64 n] w fun e w' => e = .returned (.tuple #[.slice none 0 0, .int .i64 2]) ∧ Below w.heap.size w w' := by
  have hb1 : Below w.heap.size w (w.alloc (.cells #[.int .i64 n] 3)) := (Below.refl _ _).alloc (Nat.le_refl _) _
  have hq := onone_any (h.below hb1)
  have k1 : decide (n < 0) = false := decide_eq_false (by omega)
  have k2 : decide (64 ≤ n) = true := decide_eq_true hn
  have k3 : ¬ n < 0 := by omega
  clear h
  go_enter Tryz.func32, Tryz.ntmps32
  go_wp2_with (go_at_call 48; refine hq.mono ?_; rintro e wn ⟨rfl, rfl⟩)
  go_ret2
  exact ⟨rfl, hb1⟩
set_option maxHeartbeats 1000000 in
theorem oremove_bad (h : Os w p g v V X b1 b2 K T) (t u : ByteArray) (hn : (nameB t && nameB u) = false) : Calls Tryz.prog 46 #[.pointer (some ⟨p, 0, none⟩), .agg #[.string t, .string u]] w fun e w' => e = .returned (.tuple #[.slice none 0 0, .int .i64 2]) ∧ Below w.heap.size w w' := by
  have hb1 : Below w.heap.size w (w.alloc (.cells #[.string t, .string u] 39)) := (Below.refl _ _).alloc (Nat.le_refl _) _
  have hq := onone_any (h.below hb1)
  have hk := fun W => mayKey_any t u W
  rw [hn] at hk
  clear h hn
  go_enter Tryz.func46, Tryz.ntmps46
  go_wp2_with (first | (go_at_call 48; refine hq.mono ?_; rintro e wn ⟨rfl, rfl⟩) | (go_at_call 20; refine (hk _).mono ?_; rintro e w2 ⟨rfl, hg2⟩))
  go_ret2
  exact ⟨rfl, hb1.trans (hg2.below.mono hb1.size)⟩
set_option maxHeartbeats 2000000 in
theorem oadd_no (h : Os w p g v V X b1 b2 K T) (t u : ByteArray) (d : Dt) (hn : itB ⟨d, t, u, false⟩ = false) : Calls Tryz.prog 45 #[.pointer (some ⟨p, 0, none⟩), .agg #[.string t, .string u], .agg #[.int .i64 d.1, .int .u64 (d.2 : Int)]] w fun e w' => e = .returned (.tuple #[.slice none 0 0, .int .i64 2]) ∧ Below w.heap.size w w' := by
  have hb1 : Below w.heap.size w (((w.alloc (.cells #[.string t, .string u] 39)).alloc (.cells #[.int .i64 d.1, .int .u64 (d.2 : Int)] 41)).alloc (.cells #[.int .i64 d.1, .int .u64 (d.2 : Int), .string t, .string u, .bool false] 48)) := (((Below.refl _ _).alloc (Nat.le_refl _) _).alloc (by simp) _).alloc (by simp; omega) _
  have hq := onone_any (h.below hb1)
  have hm : ∀ W, Calls Tryz.prog 72 #[.agg #[.int .i64 d.1, .int .u64 (d.2 : Int), .string t, .string u, .bool false]] W fun e w' => e = .returned (.bool false) ∧ Grw W w' := fun W => by
    have := omay_any ⟨d, t, u, false⟩ W
    rw [hn] at this
    exact this
  clear h hn
  go_enter Tryz.func45, Tryz.ntmps45
  go_wp2_with (first | (go_at_call 48; refine hq.mono ?_; rintro e wn ⟨rfl, rfl⟩) | (go_at_call 72; refine (hm _).mono ?_; rintro e w2 ⟨rfl, hg2⟩))
  go_ret2
  exact ⟨rfl, hb1.trans (hg2.below.mono hb1.size)⟩
end
end Go.Proofs.YtldfaaahmpncbaaGreat

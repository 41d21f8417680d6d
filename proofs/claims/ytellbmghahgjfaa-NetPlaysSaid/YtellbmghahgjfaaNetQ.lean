/-
  once and nothing, of no net.
-/
import Derived.Test.YtellbmghahgjfaaNetP
namespace Go.Proofs.Ytellbmghahgjfaa
open Go.RowKit Go.Maps Go.WideShapes Go.WideMaps
open NetM
set_option linter.unusedVariables false
set_option linter.unusedSimpArgs false
set_option maxRecDepth 20000
attribute [local go_sem] Oper.semAt_some

theorem nfunc_nil (f : Nat) (caps : Array Value) (w : World) : (binOp .eql 79 (.func (.func f) #[] caps) .nilFunc).run Try.prog w = .ok (.bool false) w := by kernel_rfl
section
variable {w w' : World}
/-- What once's loop holds. -/
def OnI (w : World) (r : Nat) (X : World) : Prop :=
  Below w.heap.size w X ∧ w.heap.size + 4 ≤ X.heap.size ∧ Blk X w.heap.size 30 #[.pointer (some ⟨r, 0, none⟩)] ∧ Blk X (w.heap.size + 1 + 1) 4 #[.bool false] ∧ Blk X (w.heap.size + 1 + 1 + 1) 3 #[.int .i64 0] ∧ Blk X r 33 #[.slice none 0 0, .int .i64 0, .int .i64 0]
theorem OnI.kept {r : Nat} {A C : World} (hr : r < w.heap.size) (h : OnI w r A) (k : Below (w.heap.size + 4) A C) : OnI w r C :=
  ⟨h.1.trans (k.mono (by omega)), Nat.le_trans h.2.1 k.size, h.2.2.1.below k (by omega), h.2.2.2.1.below k (by omega), h.2.2.2.2.1.below k (by omega), h.2.2.2.2.2.below k (by omega)⟩
set_option maxHeartbeats 4000000 in
theorem once_no {v : Value} (h : NoN w v) (r : Nat) (hr : Blk w r 33 #[.slice none 0 0, .int .i64 0, .int .i64 0]) : Calls Try.prog 27 #[v, .pointer (some ⟨r, 0, none⟩), .int .i64 0] w fun e w' => e = .returned (.bool true) ∧ Below w.heap.size w w' := by
  have hb4 : Below w.heap.size w ((((w.alloc (.cells #[.pointer (some ⟨r, 0, none⟩)] 30)).alloc (.cells #[.int .i64 0] 3)).alloc (.cells #[.bool false] 4)).alloc (.cells #[.int .i64 0] 3)) := ((((Below.refl _ _).alloc (Nat.le_refl _) _).alloc (by simp) _).alloc (by simp; omega) _).alloc (by simp; omega) _
  have h4 := h.below hb4
  have B0 := (((Blk.new w 30 #[.pointer (some ⟨r, 0, none⟩)]).alloc (.cells #[.int .i64 0] 3)).alloc (.cells #[.bool false] 4)).alloc (.cells #[.int .i64 0] 3)
  have B2 := (Blk.new ((w.alloc (.cells #[.pointer (some ⟨r, 0, none⟩)] 30)).alloc (.cells #[.int .i64 0] 3)) 4 #[.bool false]).alloc (.cells #[.int .i64 0] 3)
  have B3 := Blk.new (((w.alloc (.cells #[.pointer (some ⟨r, 0, none⟩)] 30)).alloc (.cells #[.int .i64 0] 3)).alloc (.cells #[.bool false] 4)) 3 #[.int .i64 0]
  simp only [World.size_alloc] at B2 B3
  have hsz4 : ((((w.alloc (.cells #[.pointer (some ⟨r, 0, none⟩)] 30)).alloc (.cells #[.int .i64 0] 3)).alloc (.cells #[.bool false] 4)).alloc (.cells #[.int .i64 0] 3)).heap.size = w.heap.size + 4 := by simp
  have hr4 := hr.below hb4 hr.lt
  have hfo : Try.prog.follows .mixedOrders = true := by kernel_rfl
  refine (callsIn_wide (n := 19)).1 ?_
  refine callsIn_of_wp_marks Try.func27 rfl trivial ?_ rfl
  simp only [Try.ntmps27, List.size_toArray, List.length_cons, List.length_nil, Nat.reduceAdd, Nat.reduceSub, Array.replicate_succ, Array.replicate_zero, List.push_toArray, List.append_toArray, List.nil_append, List.cons_append]
  gi_upto_region 2 with fail
  generalize (((w.alloc (.cells #[.pointer (some ⟨r, 0, none⟩)] 30)).alloc (.cells #[.int .i64 0] 3)).alloc (.cells #[.bool false] 4)).alloc (.cells #[.int .i64 0] 3) = W4 at hb4 h4 B0 B2 B3 hsz4 hr4 ⊢
  have HAL := Lib.hid (netAll_no h4)
  have hfn := fun (bx : Nat) (W : World) => nfunc_nil 51 #[.pointer (some ⟨bx, 0, none⟩)] W
  gi_wp2_with (first | (refine ⟨trivial, ?_⟩; gi_at_call 46; refine (callsIn_wide.2 HAL.out).mono ?_; rintro e w5 ⟨bx, rfl, hL, hb5⟩))
  have hrl := hr.lt
  have HI0 := Lib.hid (show OnI w r w5 from ⟨hb4.trans (hb5.mono hb4.size), by have := hb5.size; omega, B0.below hb5 B0.lt, B2.below hb5 B2.lt, B3.below hb5 B3.lt, hr4.below hb5 hr4.lt⟩)
  have hsz5 : w.heap.size + 4 ≤ w5.heap.size := HI0.out.2.1
  clear HAL hb5 h4 B0 B2 B3 hr4 hb4 hsz4 hfn h hr
  refine' range_p rfl (by omega) (gf := 51) (lb := #[.pointer (some ⟨bx, 0, none⟩)]) rfl trivial enter_allN (allN_nil bx w5 hL) (fun {A B C} h k => trivial) (fun _ _ _ _ _ _ _ _ => trivial) (Below.refl _ _) (fun _ => rfl) (fun pre x W l o o' hx _ _ => hx)
    (fun pre X => pre = [] ∧ OnI w r X ∧ w5.heap.size ≤ X.heap.size) (fun _ _ _ => False) (abs_of (fun s X h => h.2.2) (fun s A C h k => ⟨h.1, OnI.kept hrl h.2.1 (k.mono hsz5), Nat.le_trans h.2.2 k.size⟩)) (fun c => abs_of (fun s W h => h.elim) (fun s A C h k => h)) ⟨rfl, HI0.out, Nat.le_refl _⟩
    (fun _ _ _ _ => False) ?hRb ?assign ?body ?done ?stop
  case hRb => intro _ _ _ _ _ _ _ h; exact h.elim
  case assign => intro l pre x W K _ hx; exact hx.elim
  case body => intro l pre x a' W h; exact h.elim
  case stop => intro D c pre W _ h; exact h.elim
  case done =>
    rintro D xs W hD' rfl ⟨_, ⟨hb, hs, b1, b3, b4, b5⟩, hszX⟩ hKd
    have HALL := Lib.hid (show OnI w r W.drew ∧ W.drew.heap[D]? = some (.deferred (some [])) from ⟨⟨hb.trans ((show Below W.heap.size W W.drew from (Below.refl _ _).drew).mono hb.size), hs, b1, b3, b4, b5⟩, hKd⟩)
    have hDw : w.heap.size + 4 ≤ D := by omega
    clear hb hs b1 b3 b4 b5 hKd HI0 hszX hD'
    gi_wp2_with fail
    refine wpIn_wide.2 ?_
    refine wp_region_still_tail 7 hfo (by kernel_rfl) ?_
    simp only [List.take_succ_cons, List.take_zero, List.drop_succ_cons, List.drop_zero]
    change wpStill _ _ W.drew (fun a' => wpList _ _ _ _ a' W.drew) _ _
    generalize W.drew = X at HALL ⊢
    obtain ⟨⟨hb, hs, b1, b3, b4, b5⟩, hKd⟩ := HALL.out
    have q1 : X.cell? ⟨w.heap.size, 0, none⟩ = some (.pointer (some ⟨r, 0, none⟩)) := by rw [b1.cell]; rfl
    have q4 : X.cell? ⟨w.heap.size + 1 + 1 + 1, 0, none⟩ = some (.int .i64 0) := by rw [b4.cell]; rfl
    have q5 : X.cell? ⟨r, 0, none⟩ = some (.slice none 0 0) := by rw [b5.cell]; rfl
    have z3 := b3.frozen 0
    have q3 : X.cell? ⟨w.heap.size + 1 + 1, 0, none⟩ = some (.bool false) := by rw [b3.cell]; rfl
    have hk := Keep.setCell (S := fun i => i = w.heap.size + 1 + 1) X ⟨w.heap.size + 1 + 1, 0, none⟩ (.bool true) rfl
    have hD2 : (X.setCell ⟨w.heap.size + 1 + 1, 0, none⟩ (.bool true)).heap[D]? = some (.deferred (some [])) := (hk.block D (Array.getElem?_eq_some_iff.1 hKd).1 (fun e => by omega)).trans hKd
    have hb2 : Below w.heap.size w (X.setCell ⟨w.heap.size + 1 + 1, 0, none⟩ (.bool true)) := Keep.below hb hk hb.size (fun i e => by omega)
    have hbe := hb2.trans (below_put (X.setCell ⟨w.heap.size + 1 + 1, 0, none⟩ (.bool true)) D (.deferred none) (by omega) hb2.size)
    have hc5 : ((X.setCell ⟨w.heap.size + 1 + 1, 0, none⟩ (.bool true)).putObj D (.deferred none)).cell? ⟨w.heap.size + 1 + 1, 0, none⟩ = some (.bool true) := by rw [((b3.set_ 0 (.bool true)).put_ hD2 rfl _).cell]; rfl
    have HC5 := Lib.hid hc5
    have HE := Lib.hid (And.intro hD2 hbe)
    clear hb hs b1 b3 b4 b5 hKd hk hD2 hb2 hbe hc5 hDw HALL
    repeat still_step
    refine wpStill_nil ?_
    go_wp2
    trace_state
    gi_wp2
    refine ⟨by simp, .inl ⟨_, _, rfl, run_takeDeferred HE.out.1, ?_⟩⟩
    have hc5 := HC5.out
    refine ⟨.bool true, ?_, rfl, HE.out.2⟩
    simp [results, Try.f27, go_sem, hc5]
set_option maxHeartbeats 8000000 in
theorem nothing_any {v : Value} (h : NoN w v) : Calls Try.prog 25 #[v] w fun e w' => e = .returned (.bool true) ∧ Below w.heap.size w w' := by
  have HT := Lib.hid (take_bad (find_no h 0) (by decide))
  have HA := Lib.hid (show ∀ X, Below w.heap.size w X → Calls Try.prog 18 #[v, .int .i64 (-1)] X fun e w' => e = .returned (.tuple #[.agg #[.int .i64 0, .int .i64 0, .slice none 0 0], .int .i64 1]) ∧ Below X.heap.size X w' from fun X hX => at_bad (find_no (h.below hX) (-1)) (by decide))
  have HS := Lib.hid (show ∀ X, Below w.heap.size w X → Calls Try.prog 17 #[v, .int .i64 1, .int .i64 2, .slice none 0 0] X fun e w' => e = .returned (.int .i64 1) ∧ Below X.heap.size X w' from fun X hX => send_no (h.below hX) _ _)
  have HD := Lib.hid (show ∀ X, Below w.heap.size w X → Calls Try.prog 28 #[v, .int .i64 0] X fun e w' => e = .returned (.int .i64 1) ∧ Below X.heap.size X w' from fun X hX => drop_bad (find_no (h.below hX) 0) (by decide))
  have HB := Lib.hid (show ∀ X, Below w.heap.size w X → Calls Try.prog 21 #[v, .int .i64 0] X fun e w' => e = .returned (.int .i64 1) ∧ Below X.heap.size X w' from fun X hX => double_bad (find_no (h.below hX) 0) (by decide))
  have HO := Lib.hid (show ∀ X, Below w.heap.size w X → Calls Try.prog 27 #[v, .pointer (some ⟨X.heap.size, 0, none⟩), .int .i64 0] (X.alloc (.cells #[.slice none 0 0, .int .i64 0, .int .i64 0] 33)) fun e w' => e = .returned (.bool true) ∧ Below X.heap.size X w' from fun X hX => by
    have hb : Below X.heap.size X (X.alloc (.cells #[.slice none 0 0, .int .i64 0, .int .i64 0] 33)) := (Below.refl _ _).alloc (Nat.le_refl _) _
    refine (once_no ((h.below hX).below hb) X.heap.size (Blk.new X _ _)).mono ?_
    rintro e w' ⟨rfl, hw⟩
    exact ⟨rfl, hb.trans (hw.mono hb.size)⟩)
  have HL := Lib.hid (show ∀ X, Below w.heap.size w X → Calls Try.prog 20 #[v] X fun e w' => e = .returned (.int .i64 0) ∧ Below X.heap.size X w' from fun X hX => len_no (h.below hX))
  have HLI := Lib.hid (show ∀ X, Below w.heap.size w X → Calls Try.prog 23 #[v, .int .i64 1, .int .i64 2] X fun e w' => e = .returned (.int .i64 0) ∧ Below X.heap.size X w' from fun X hX => line_no (h.below hX) 1 2 (by unfold OkP; decide))
  have HLO := Lib.hid (show ∀ X, Below w.heap.size w X → Calls Try.prog 22 #[v] X fun e w' => e = .returned (.int .i64 0) ∧ Below X.heap.size X w' from fun X hX => lost_no (h.below hX))
  have HC := Lib.hid (show ∀ X, Below w.heap.size w X → Calls Try.prog 24 #[v, .int .i64 1] X fun e w' => e = .returned (.int .i64 0) ∧ Below X.heap.size X w' from fun X hX => clear_no (h.below hX) 1)
  have HCO := Lib.hid (show ∀ X, Below w.heap.size w X → Calls Try.prog 13 #[v] X fun e w' => e = .returned (.pointer none) ∧ w' = X from fun X hX => copy_no (h.below hX))
  clear h
  go_enter Try.func25, Try.ntmps25
  go_upto_region 2 with (go_at_call 19; refine HT.out.mono ?_; rintro e X1 ⟨rfl, hbX1⟩)
  have hX1 := hbX1.alloc hbX1.size (.cells #[.int .i64 0, .int .i64 0, .slice none 0 0] 44)
  generalize X1.alloc (.cells #[.int .i64 0, .int .i64 0, .slice none 0 0] 44) = Y1 at hX1 ⊢
  go_upto_region 3 with (go_at_call 18; refine (HA.out Y1 hX1).mono ?_; rintro e X2 ⟨rfl, hbX2⟩)
  have hX2 := (hX1.trans (hbX2.mono hX1.size)).alloc (by have := hX1.size; have := hbX2.size; omega) (.cells #[.int .i64 0, .int .i64 0, .slice none 0 0] 44)
  generalize X2.alloc (.cells #[.int .i64 0, .int .i64 0, .slice none 0 0] 44) = Y2 at hX2 ⊢
  clear hX1 hbX1 hbX2 HT HA
  go_wp2_with (first | (go_at_call 10; refine (num_any _ _).mono ?_; rintro e w2 ⟨rfl, hwd⟩; obtain rfl := hwd.symm) | (go_at_call 17; refine (HS.out Y2 hX2).mono ?_; rintro e Y3 ⟨rfl, hb3⟩; have hX3 := hX2.trans (hb3.mono hX2.size)) | (go_at_call 28; refine (HD.out Y3 hX3).mono ?_; rintro e Y4 ⟨rfl, hb4⟩; have hX4 := hX3.trans (hb4.mono hX3.size)) | (go_at_call 21; refine (HB.out Y4 hX4).mono ?_; rintro e Y5 ⟨rfl, hb5⟩; have hX5 := hX4.trans (hb5.mono hX4.size)) | (go_at_call 27; refine (HO.out Y5 hX5).mono ?_; rintro e Y6 ⟨rfl, hb6⟩; have hX6 := hX5.trans (hb6.mono hX5.size)) | (go_at_call 20; refine (HL.out Y6 hX6).mono ?_; rintro e Y7 ⟨rfl, hb7⟩; have hX7 := hX6.trans (hb7.mono hX6.size)) | (go_at_call 23; refine (HLI.out Y7 hX7).mono ?_; rintro e Y8 ⟨rfl, hb8⟩; have hX8 := hX7.trans (hb8.mono hX7.size)) | (go_at_call 22; refine (HLO.out Y8 hX8).mono ?_; rintro e Y9 ⟨rfl, hb9⟩; have hX9 := hX8.trans (hb9.mono hX8.size)) | (go_at_call 24; refine (HC.out Y9 hX9).mono ?_; rintro e Z1 ⟨rfl, hc1⟩; have hZ1 := hX9.trans (hc1.mono hX9.size)) | (go_at_call 13; refine (HCO.out Z1 hZ1).mono ?_; rintro e Z2 ⟨rfl, hwd⟩; obtain rfl := hwd.symm))
  go_ret
  exact ⟨rfl, hZ1⟩
end
end Go.Proofs.Ytellbmghahgjfaa

/-
  An event as cells; event's May.
-/
import Derived.Test.YtigepbklpiilpaaEvTo
import Derived.Deep.Cut
namespace Go.Proofs.Ytigepbklpiilpaa
open Go.RowKit
open CtxM
set_option linter.unusedVariables false
set_option linter.unusedSimpArgs false
set_option maxRecDepth 20000

/-- An event: its parts as they read, and where they lie. -/
structure Ev where
  id : Dt
  topic : ByteArray
  pl : Value
  P : List UInt8
  V : List Nat
  to : Value
  T : List De
def evl (x : Ev) : List Value := .int .i64 x.id.1 :: .int .u64 (x.id.2 : Int) :: .string x.topic :: x.pl :: (x.V.map uq ++ [x.to])
def evc (x : Ev) : Array Value := (evl x).toArray
/-- Its parts read so in the world w. -/
structure EvOk (w : World) (x : Ev) : Prop where
  pl : Sl w x.pl x.P
  to : Se w x.to x.T
  len : x.V.length = 16
  lt : ∀ n ∈ x.V, n < 18446744073709551616
theorem EvOk.below {w w' : World} {x : Ev} (h : EvOk w x) (hb : Below w.heap.size w w') : EvOk w' x := ⟨h.pl.below hb, h.to.below hb, h.len, h.lt⟩
theorem evc_size {x : Ev} (h : x.V.length = 16) : (evc x).size = 21 := by simp [evc, evl, h]
theorem info_ev : (Try.prog.info? 30).map (·.size) = some 21 := by kernel_rfl
theorem evc_info {x : Ev} (h : x.V.length = 16) : (Try.prog.info? 30).map (·.size) = some (evc x).size := by rw [info_ev, evc_size h]

section
variable {w : World} {g : Nat} {t : TypeId} {x : Ev}
theorem ev_0 (h : Blk w g t (evc x)) : w.cell? ⟨g, 0, none⟩ = some (.int .i64 x.id.1) := by rw [h.cell]; rfl
theorem ev_1 (h : Blk w g t (evc x)) : w.cell? ⟨g, 1, none⟩ = some (.int .u64 (x.id.2 : Int)) := by rw [h.cell]; rfl
theorem ev_2 (h : Blk w g t (evc x)) : w.cell? ⟨g, 2, none⟩ = some (.string x.topic) := by rw [h.cell]; rfl
theorem ev_3 (h : Blk w g t (evc x)) : w.cell? ⟨g, 3, none⟩ = some x.pl := by rw [h.cell]; rfl
theorem ev_20 (h : Blk w g t (evc x)) (hv : x.V.length = 16) : w.cell? ⟨g, 20, none⟩ = some x.to := by
  rw [h.cell]
  unfold evc evl
  rw [List.getElem?_toArray]
  show (x.V.map uq ++ [x.to])[16]? = _
  rw [List.getElem?_append_right (by simp [hv])]
  simp [hv]
theorem ev_at (h : Blk w g t (evc x)) (hv : x.V.length = 16) (k : Nat) (hk : k < 16) : w.cell? ⟨g, 4 + k, none⟩ = some (.int .u64 (x.V.getD k 0 : Int)) := by
  rw [h.cell]
  unfold evc evl
  rw [List.getElem?_toArray, show 4 + k = k + 1 + 1 + 1 + 1 by omega]
  simp only [List.getElem?_cons_succ]
  rw [List.getElem?_append_left (by simp [hv]; omega), List.getElem?_map, List.getD_eq_getElem?_getD, List.getElem?_eq_getElem (by omega)]
  rfl
theorem ev_range (h : Blk w g t (evc x)) (hv : x.V.length = 16) : w.rangeAt g 4 (uqs x.V).toList := by
  intro j u hu
  rw [uqs_list] at hu
  have hj : j < x.V.length := by simpa using (List.getElem?_eq_some_iff.1 hu).1
  rw [h.cell]
  unfold evc evl
  rw [List.getElem?_toArray, show 4 + j = j + 1 + 1 + 1 + 1 by omega]
  simp only [List.getElem?_cons_succ]
  rw [List.getElem?_append_left (by simpa using hj)]
  exact hu
theorem ev_all (h : Blk w g t (evc x)) : w.rangeAt g 0 (evc x).toList := fun j u hu => by
  rw [Nat.zero_add, h.cell]; simpa using hu
theorem uqs_map_arr (V : List Nat) : Value.agg (V.map uq).toArray = .agg (uqs V) := rfl
end

/-- May the event be? -/
noncomputable def evB (x : Ev) : Bool := decide (PastOk x.id x.V) && (nameB x.topic && (decide (x.P.length ≤ 512) && toB x.T))

set_option maxHeartbeats 4000000 in
theorem emay_any (x : Ev) (w : World) (hx : EvOk w x) : Calls Try.prog 10 #[.agg (evc x)] w fun e w' => e = .returned (.bool (evB x)) ∧ Grw w w' := by
  have hb0 : Grw w (w.alloc (.cells (evc x) 30)) := (Grw.refl _).alloc _
  have hB0 := Blk.new w 30 (evc x)
  have hX0 := hx.below hb0.below
  go_enter Try.func10, Try.ntmps10
  go_upto_region 1 with fail
  have hV := hx.len
  have h1 := fun W => emayPast_any x.V x.id W hV
  have h2 := fun W => emayName_any x.topic W
  have h4 := fun W h => emayTo_any x.to x.T W h
  obtain ⟨pa, ha⟩ : ∃ p, p = decide (PastOk x.id x.V) := ⟨_, rfl⟩
  obtain ⟨pb, hb⟩ : ∃ p, p = nameB x.topic := ⟨_, rfl⟩
  obtain ⟨pd, hd⟩ : ∃ p, p = toB x.T := ⟨_, rfl⟩
  have he : evB x = (pa && (pb && (decide (x.P.length ≤ 512) && pd))) := by rw [ha, hb, hd]; rfl
  rw [← ha] at h1
  rw [← hb] at h2
  rw [← hd] at h4
  have HE := Lib.hid he
  obtain ⟨Ap, cp, hpl, _⟩ := id hX0.pl
  clear ha hb hd he hx
  generalize w.alloc (.cells (evc x) 30) = w1 at hb0 hB0 hX0 ⊢
  have hX1 := hX0
  have hB1 := hB0
  have hz := hB1.lt
  clear hX0 hB0
  have a1 := ev_0 hB1
  have b1 := ev_1 hB1
  have c1 := ev_2 hB1
  have d1 := ev_3 hB1
  have e1 := ev_20 hB1 hV
  have f1 := ev_range hB1 hV
  rw [hpl] at d1
  cases pa
  · go_wp2_with (first | (refine wpList_load_mid rfl 27 _ rfl w.heap.size 4 rfl (uqs x.V).toList _ f1 Try.underlying27 rfl (by rw [info_vec, uqs_list, List.length_map, hV]) ?_) | (go_at_call 29; refine (h1 _).mono ?_; rintro e w2 ⟨rfl, hg2⟩; have B2 := hB1.below hg2.below hB1.lt; have a2 := ev_0 B2; have b2 := ev_1 B2; have c2 := ev_2 B2; have d2 := ev_3 B2; rw [hpl] at d2; have e2 := ev_20 B2 hV; have f2 := ev_range B2 hV) | (go_at_call 30; refine (h2 _).mono ?_; rintro e w3 ⟨rfl, rfl⟩) | (go_at_call 31; refine (h4 _ (hX1.to.below hg2.below)).mono ?_; rintro e w4 ⟨rfl, hg4⟩))
    go_ret
    exact ⟨ret_bool (by rw [HE.out]; simp []), hb0.trans hg2⟩
  · cases pb
    · go_wp2_with (first | (refine wpList_load_mid rfl 27 _ rfl w.heap.size 4 rfl (uqs x.V).toList _ f1 Try.underlying27 rfl (by rw [info_vec, uqs_list, List.length_map, hV]) ?_) | (go_at_call 29; refine (h1 _).mono ?_; rintro e w2 ⟨rfl, hg2⟩; have B2 := hB1.below hg2.below hB1.lt; have a2 := ev_0 B2; have b2 := ev_1 B2; have c2 := ev_2 B2; have d2 := ev_3 B2; rw [hpl] at d2; have e2 := ev_20 B2 hV; have f2 := ev_range B2 hV) | (go_at_call 30; refine (h2 _).mono ?_; rintro e w3 ⟨rfl, rfl⟩) | (go_at_call 31; refine (h4 _ (hX1.to.below hg2.below)).mono ?_; rintro e w4 ⟨rfl, hg4⟩))
      go_ret
      exact ⟨ret_bool (by rw [HE.out]; simp []), hb0.trans hg2⟩
    · by_cases hp : x.P.length ≤ 512
      · have kp : (x.P.length : Int) ≤ 512 := by omega
        go_wp2_with (first | (refine wpList_load_mid rfl 27 _ rfl w.heap.size 4 rfl (uqs x.V).toList _ f1 Try.underlying27 rfl (by rw [info_vec, uqs_list, List.length_map, hV]) ?_) | (go_at_call 29; refine (h1 _).mono ?_; rintro e w2 ⟨rfl, hg2⟩; have B2 := hB1.below hg2.below hB1.lt; have a2 := ev_0 B2; have b2 := ev_1 B2; have c2 := ev_2 B2; have d2 := ev_3 B2; rw [hpl] at d2; have e2 := ev_20 B2 hV; have f2 := ev_range B2 hV) | (go_at_call 30; refine (h2 _).mono ?_; rintro e w3 ⟨rfl, rfl⟩) | (go_at_call 31; refine (h4 _ (hX1.to.below hg2.below)).mono ?_; rintro e w4 ⟨rfl, hg4⟩))
        go_ret
        exact ⟨ret_bool (by rw [HE.out]; simp [hp]), (hb0.trans hg2).trans hg4⟩
      · have kp : ¬ (x.P.length : Int) ≤ 512 := by omega
        go_wp2_with (first | (refine wpList_load_mid rfl 27 _ rfl w.heap.size 4 rfl (uqs x.V).toList _ f1 Try.underlying27 rfl (by rw [info_vec, uqs_list, List.length_map, hV]) ?_) | (go_at_call 29; refine (h1 _).mono ?_; rintro e w2 ⟨rfl, hg2⟩; have B2 := hB1.below hg2.below hB1.lt; have a2 := ev_0 B2; have b2 := ev_1 B2; have c2 := ev_2 B2; have d2 := ev_3 B2; rw [hpl] at d2; have e2 := ev_20 B2 hV; have f2 := ev_range B2 hV) | (go_at_call 30; refine (h2 _).mono ?_; rintro e w3 ⟨rfl, rfl⟩) | (go_at_call 31; refine (h4 _ (hX1.to.below hg2.below)).mono ?_; rintro e w4 ⟨rfl, hg4⟩))
        go_ret
        exact ⟨ret_bool (by rw [HE.out]; simp [hp]), hb0.trans hg2⟩
end Go.Proofs.Ytigepbklpiilpaa

/-
  The document's Append.
-/
import Derived.Test.YtdbkhigocjmfoaaDskRefT
namespace Go.Proofs.Ytdbkhigocjmfoaa
open Go.RowKit
open DskM
set_option linter.unusedVariables false
set_option linter.unusedSimpArgs false
set_option maxRecDepth 20000
attribute [local go_sem] Oper.semAt_some
section
variable {P : Program} {ops : Array Oper} {Q : Exit → Act → World → Prop} {md : Region.Mode} {S : World → Prop} {n : Nat}
/-- One of two operations comes up. -/
theorem tail_two {i j fuel : Nat} {o o' : Oper} {listed : Array Bool} {a : Act} {w : World} (hr : Region.ready md ops listed = [i, j]) (ho : ops[i]? = some o) (ho' : ops[j]? = some o') (hin : i < n) (hjn : j < n)
    (h : ∀ K' : Act → World → Prop, Shut (∀ a w, S w → (S w → Tail P md ops Q S n fuel (listed.setIfInBounds i true) a w) → K' a w) → if Region.wanted o (yielded ops a.tmps) = true then Oper.wp P o a w K' Q else K' (a.put o.dst undef) w)
    (h' : ∀ K' : Act → World → Prop, Shut (∀ a w, S w → (S w → Tail P md ops Q S n fuel (listed.setIfInBounds j true) a w) → K' a w) → if Region.wanted o' (yielded ops a.tmps) = true then Oper.wp P o' a w K' Q else K' (a.put o'.dst undef) w) :
    Tail P md ops Q S n (fuel + 1) listed a w := fun hB inv => by
  refine ⟨fun h0 => (by rw [hr] at h0; cases h0), fun x hx => ?_⟩
  have hx' := hx
  rw [hr] at hx'
  rcases List.mem_cons.1 hx' with rfl | hx1
  · exact wpOp_step ho (fun K' hK => h K' (fun a w hS hW => hK a w ⟨fun _ => hS, hW hS hB (inv.set hx hin)⟩))
  · obtain rfl : x = j := by simpa using hx1
    exact wpOp_step ho' (fun K' hK => h' K' (fun a w hS hW => hK a w ⟨fun _ => hS, hW hS hB (inv.set hx hjn)⟩))
end
theorem SlF.one (w : World) (nm : ByteArray) (v : Value) (bs : List UInt8) (la : Nat) : SlF (w.alloc (.cells #[.string nm, v, .int .i64 (la : Int)] 73)) (.slice (some ⟨w.heap.size, 0, none⟩) 1 1) [⟨nm.data.toList, bs, la, v⟩] := by
  refine ⟨_, 1, rfl, Nat.le_refl _, by omega, fun _ => ⟨w.heap.size, 0, rfl, fun j u hu => ?_⟩⟩
  have e : frs [⟨nm.data.toList, bs, la, v⟩] = [.string nm, v, .int .i64 (la : Int)] := rfl
  rw [e] at hu
  rw [(Blk.new w 73 _).cell, Nat.zero_add]
  rw [← hu]
  simp
theorem set_mid {α : Type} (A B : List α) (x y : α) {k : Nat} (hk : A.length = k) : (A ++ [x] ++ B).set k y = A ++ [y] ++ B := by
  subst hk
  simp [List.set_append]
theorem get_mid {α : Type} (A B : List α) (x : α) {k : Nat} (hk : A.length = k) (h : k < (A ++ [x] ++ B).length) : (A ++ [x] ++ B)[k] = x := by
  subst hk
  simp
theorem mem_total {F : List Fp} {x : Fp} (h : x ∈ F) : x.2.1.length ≤ totalP F := by
  unfold totalP
  induction F with
  | nil => cases h
  | cons y F ih =>
    rw [List.map_cons, List.sum_cons]
    rcases List.mem_cons.1 h with rfl | h
    · omega
    · have := ih h; omega
section
variable {w w' : World} {q : Nat} {v : Value} {S : Ds} {R : List Fr}
theorem RFoot.new {v' : Value} {R' : List Fr} {B : Nat} (hv : ∀ i, v'.ownBlock = some i → v.ownBlock = some i ∨ B ≤ i) (hR : ∀ f ∈ R', f ∈ R ∨ ∀ i, f.v.ownBlock = some i → B ≤ i) : ∀ i, RFoot q v' R' i → RFoot q v R i ∨ B ≤ i := by
  rintro i (h | h | ⟨x, hx, hi⟩)
  · exact .inl (.inl h)
  · exact (hv i h).imp (fun h => .inr (.inl h)) id
  · rcases hR x hx with h | h
    · exact .inl (.inr (.inr ⟨x, h, hi⟩))
    · exact .inr (h i hi)
/-- A number of bytes lies in no record. -/
theorem Rd.slq (h : Rd w q v S R) {bv : Value} {b : List UInt8} (hs : Sl w bv b) (k : Keep (fun i => i = q) w w') : Sl w' bv b := by
  obtain ⟨A, c, rfl, hc, ha⟩ := hs
  refine ⟨A, c, rfl, hc, fun hn => ?_⟩
  obtain ⟨bb, o, rfl, hx⟩ := ha hn
  refine ⟨bb, o, rfl, fun j hj => k.cell (hx j hj) ?_⟩
  intro e
  have e : bb = q := e
  subst e
  have h1 := hx j hj
  rw [h.blk.cell] at h1
  obtain ⟨A, c, rfl, _⟩ := h.row.shape
  unfold rdc at h1
  generalize o + j = t at h1
  match t, h1 with
  | 0, h1 => simp at h1
  | 1, h1 => simp at h1
  | 2, h1 => simp at h1
  | 3, h1 => simp at h1
  | 4, h1 => simp at h1
  | n + 5, h1 => simp at h1
theorem addP_new {F : List Fp} (hr : RiseP F) (n : Nm) (b : List UInt8) (hi : isP F n = false) {k : Nat} (hp : posP F n = k) : addP F n b = F.take k ++ [(n, b, 0)] ++ F.drop k := by
  unfold addP
  rw [find_none_pos hr hi, ← hp]
  exact ins_pos hr (n, b, 0) hi
theorem addP_there {F : List Fp} (hr : RiseP F) (n : Nm) (b : List UInt8) (hi : isP F n = true) {k : Nat} (hp : posP F n = k) (hk : k < F.length) : addP F n b = F.set k (F[k].1, F[k].2.1 ++ b, F[k].2.2) := by
  subst hp
  obtain ⟨hk', e1, e2⟩ := find_some_pos hr hi
  unfold addP
  rw [e2]
  show setP F (F[posP F n].1, _, _) = _
  rw [set_pos hr _ (by show isP F F[posP F n].1 = true; rw [e1]; exact hi)]
  show F.set (posP F F[posP F n].1) _ = _
  rw [e1]
set_option maxHeartbeats 8000000 in
theorem refApp_bad (h : Rd w q v S R) (hf : Fit S (pl R)) (s : ByteArray) (bv : Value) (b : List UInt8) (hs : Sl w bv b) (hm : mayB s.data.toList = false) {r : Int × Ds × List Fp} (hr : appendS S (pl R) s.data.toList b = r) :
    Calls Try.prog 41 #[.pointer (some ⟨q, 0, none⟩), .string s, bv] w (RRes w q v R r) := by
  have hfo : Try.prog.follows .mixedOrders = true := by kernel_rfl
  have hl : R.length ≤ 64 := by have := hf.few; rw [pl_len] at this; exact this
  have hm2 := refMay_any s w
  rw [hm] at hm2
  have HM := Lib.hid hm2
  have HR := Lib.hid (show r = (2, S, pl R) by rw [← hr]; unfold appendS; rw [if_neg (by rw [hm]; simp)])
  have H := Lib.hid h
  clear h hf hs hm hm2 hr
  go_enter Try.func41, Try.ntmps41
  go_wp2_with fail
  refine HM.out.mono ?_
  rintro e w1 ⟨rfl, hb1⟩
  go_wp2
  go_ret
  rw [HR.out]; exact RRes.same H.out hb1 _
set_option maxHeartbeats 8000000 in
theorem refApp_full1 (h : Rd w q v S R) (hf : Fit S (pl R)) (s : ByteArray) (bv : Value) (b : List UInt8) (hs : Sl w bv b) (hm : mayB s.data.toList = true) (hi : isP (pl R) s.data.toList = false) (hno : S.cap < totalP (pl R) + b.length) {r : Int × Ds × List Fp} (hr : appendS S (pl R) s.data.toList b = r) :
    Calls Try.prog 41 #[.pointer (some ⟨q, 0, none⟩), .string s, bv] w (RRes w q v R r) := by
  have hfo : Try.prog.follows .mixedOrders = true := by kernel_rfl
  have hl : R.length ≤ 64 := by have := hf.few; rw [pl_len] at this; exact this
  obtain ⟨A2, c2, hbv, hbc, _⟩ := id hs
  have hm2 := refMay_any s w
  rw [hm] at hm2
  have HM := Lib.hid hm2
  have H := Lib.hid h
  have HF := Lib.hid hf
  have HS := Lib.hid hs
  have HL := Lib.hid hl
  obtain ⟨k, hk⟩ : ∃ k, posP (pl R) s.data.toList = k := ⟨_, rfl⟩
  have HK := Lib.hid hk
  have HI := Lib.hid hi
  have HAT := Lib.hid (show ∀ W, Below w.heap.size w W → Calls Try.prog 59 #[.pointer (some ⟨q, 0, none⟩), .string s] W fun e w' => e = .returned (.tuple #[.int .i64 (k : Int), .bool false]) ∧ Below W.heap.size W w' from fun W hW => by have := at_any (h.below hW) hl s; rw [hk, hi] at this; exact this)
  obtain ⟨ro, hro⟩ : ∃ ro : Int, ro = (S.cap : Int) - (totalP (pl R) : Int) := ⟨_, rfl⟩
  have HRO := Lib.hid hro
  have HRM := Lib.hid (show ∀ W, Below w.heap.size w W → Calls Try.prog 36 #[.pointer (some ⟨q, 0, none⟩)] W fun e w' => e = .returned (.int .i64 ro) ∧ Below W.heap.size W w' from fun W hW => by rw [hro]; exact room_ref (h.below hW) hl hf.cap hf.room)
  obtain ⟨A, cA, hv, hc1, hc2⟩ := h.row.shape
  have HC0 := Lib.hid (show ∀ W, Below w.heap.size w W → W.cell? ⟨q, 0, none⟩ = some (.slice A R.length cA) from fun W hW => by have := (h.below hW).c0; rw [hv] at this; exact this)
  have HR := Lib.hid (show r = (5, S, pl R) by rw [← hr]; unfold appendS; rw [if_pos hm, if_pos (.inl hno)])
  have hd : decide (ro < (b.length : Int)) = true := decide_eq_true (by omega)
  subst hbv
  clear h hf hs hm hm2 hr hro hno hk hi hc1 hl hbc hv
  go_enter Try.func41, Try.ntmps41
  go_wp2_with fail
  refine HM.out.mono ?_
  rintro e w1 ⟨rfl, hb1⟩
  have HB1 := Lib.hid hb1
  clear HM hb1
  go_wp2_with fail
  refine (HAT.out w1 HB1.out).mono ?_
  rintro e w2 ⟨rfl, hb2⟩
  have HB2 := Lib.hid (HB1.out.trans (hb2.mono HB1.out.size))
  clear HB1 HAT hb2
  go_wp2_with fail
  refine (HRM.out w2 HB2.out).mono ?_
  rintro e w3 ⟨rfl, hb3⟩
  have HB3 := Lib.hid (HB2.out.trans (hb3.mono HB2.out.size))
  clear HB2 HRM hb3
  have z0 := HC0.out w3 HB3.out
  go_wp2
  go_ret
  rw [HR.out]; exact RRes.same H.out HB3.out _
set_option maxHeartbeats 8000000 in
theorem refApp_full2 (h : Rd w q v S R) (hf : Fit S (pl R)) (s : ByteArray) (bv : Value) (b : List UInt8) (hs : Sl w bv b) (hm : mayB s.data.toList = true) (hi : isP (pl R) s.data.toList = true) (hno : S.cap < totalP (pl R) + b.length) {r : Int × Ds × List Fp} (hr : appendS S (pl R) s.data.toList b = r) :
    Calls Try.prog 41 #[.pointer (some ⟨q, 0, none⟩), .string s, bv] w (RRes w q v R r) := by
  have hfo : Try.prog.follows .mixedOrders = true := by kernel_rfl
  have hl : R.length ≤ 64 := by have := hf.few; rw [pl_len] at this; exact this
  obtain ⟨A2, c2, hbv, hbc, _⟩ := id hs
  have hm2 := refMay_any s w
  rw [hm] at hm2
  have HM := Lib.hid hm2
  have H := Lib.hid h
  have HF := Lib.hid hf
  have HS := Lib.hid hs
  have HL := Lib.hid hl
  obtain ⟨k, hk⟩ : ∃ k, posP (pl R) s.data.toList = k := ⟨_, rfl⟩
  have HK := Lib.hid hk
  have HI := Lib.hid hi
  have HAT := Lib.hid (show ∀ W, Below w.heap.size w W → Calls Try.prog 59 #[.pointer (some ⟨q, 0, none⟩), .string s] W fun e w' => e = .returned (.tuple #[.int .i64 (k : Int), .bool true]) ∧ Below W.heap.size W w' from fun W hW => by have := at_any (h.below hW) hl s; rw [hk, hi] at this; exact this)
  obtain ⟨ro, hro⟩ : ∃ ro : Int, ro = (S.cap : Int) - (totalP (pl R) : Int) := ⟨_, rfl⟩
  have HRO := Lib.hid hro
  have HRM := Lib.hid (show ∀ W, Below w.heap.size w W → Calls Try.prog 36 #[.pointer (some ⟨q, 0, none⟩)] W fun e w' => e = .returned (.int .i64 ro) ∧ Below W.heap.size W w' from fun W hW => by rw [hro]; exact room_ref (h.below hW) hl hf.cap hf.room)
  obtain ⟨A, cA, hv, hc1, hc2⟩ := h.row.shape
  have HC0 := Lib.hid (show ∀ W, Below w.heap.size w W → W.cell? ⟨q, 0, none⟩ = some (.slice A R.length cA) from fun W hW => by have := (h.below hW).c0; rw [hv] at this; exact this)
  have HR := Lib.hid (show r = (5, S, pl R) by rw [← hr]; unfold appendS; rw [if_pos hm, if_pos (.inl hno)])
  have hd : decide (ro < (b.length : Int)) = true := decide_eq_true (by omega)
  subst hbv
  clear h hf hs hm hm2 hr hro hno hk hi hc1 hl hbc hv
  go_enter Try.func41, Try.ntmps41
  go_wp2_with fail
  refine HM.out.mono ?_
  rintro e w1 ⟨rfl, hb1⟩
  have HB1 := Lib.hid hb1
  clear HM hb1
  go_wp2_with fail
  refine (HAT.out w1 HB1.out).mono ?_
  rintro e w2 ⟨rfl, hb2⟩
  have HB2 := Lib.hid (HB1.out.trans (hb2.mono HB1.out.size))
  clear HB1 HAT hb2
  go_wp2_with fail
  refine (HRM.out w2 HB2.out).mono ?_
  rintro e w3 ⟨rfl, hb3⟩
  have HB3 := Lib.hid (HB2.out.trans (hb3.mono HB2.out.size))
  clear HB2 HRM hb3
  have z0 := HC0.out w3 HB3.out
  go_wp2
  go_ret
  rw [HR.out]; exact RRes.same H.out HB3.out _
set_option maxHeartbeats 8000000 in
theorem refApp_full3 (h : Rd w q v S R) (hf : Fit S (pl R)) (s : ByteArray) (bv : Value) (b : List UInt8) (hs : Sl w bv b) (hm : mayB s.data.toList = true) (hi : isP (pl R) s.data.toList = false) (hno : ¬ S.cap < totalP (pl R) + b.length) (h64 : R.length = 64) {r : Int × Ds × List Fp} (hr : appendS S (pl R) s.data.toList b = r) :
    Calls Try.prog 41 #[.pointer (some ⟨q, 0, none⟩), .string s, bv] w (RRes w q v R r) := by
  have hfo : Try.prog.follows .mixedOrders = true := by kernel_rfl
  have hl : R.length ≤ 64 := by have := hf.few; rw [pl_len] at this; exact this
  obtain ⟨A2, c2, hbv, hbc, _⟩ := id hs
  have hm2 := refMay_any s w
  rw [hm] at hm2
  have HM := Lib.hid hm2
  have H := Lib.hid h
  have HF := Lib.hid hf
  have HS := Lib.hid hs
  have HL := Lib.hid hl
  obtain ⟨k, hk⟩ : ∃ k, posP (pl R) s.data.toList = k := ⟨_, rfl⟩
  have HK := Lib.hid hk
  have HI := Lib.hid hi
  have HAT := Lib.hid (show ∀ W, Below w.heap.size w W → Calls Try.prog 59 #[.pointer (some ⟨q, 0, none⟩), .string s] W fun e w' => e = .returned (.tuple #[.int .i64 (k : Int), .bool false]) ∧ Below W.heap.size W w' from fun W hW => by have := at_any (h.below hW) hl s; rw [hk, hi] at this; exact this)
  obtain ⟨ro, hro⟩ : ∃ ro : Int, ro = (S.cap : Int) - (totalP (pl R) : Int) := ⟨_, rfl⟩
  have HRO := Lib.hid hro
  have HRM := Lib.hid (show ∀ W, Below w.heap.size w W → Calls Try.prog 36 #[.pointer (some ⟨q, 0, none⟩)] W fun e w' => e = .returned (.int .i64 ro) ∧ Below W.heap.size W w' from fun W hW => by rw [hro]; exact room_ref (h.below hW) hl hf.cap hf.room)
  obtain ⟨A, cA, hv, hc1, hc2⟩ := h.row.shape
  have HC0 := Lib.hid (show ∀ W, Below w.heap.size w W → W.cell? ⟨q, 0, none⟩ = some (.slice A R.length cA) from fun W hW => by have := (h.below hW).c0; rw [hv] at this; exact this)
  have HR := Lib.hid (show r = (5, S, pl R) by rw [← hr]; unfold appendS; rw [if_pos hm, if_pos (.inr ⟨find_none_pos hf.rise hi, by rw [pl_len]; exact h64⟩)])
  have hd : decide (ro < (b.length : Int)) = false := decide_eq_false (by omega)
  have hd64 : decide (64 ≤ R.length) = true := decide_eq_true (by omega)
  have h64N : 64 ≤ R.length := by omega
  have h64I : (64 : Int) ≤ (R.length : Int) := by omega
  subst hbv
  clear h hf hs hm hm2 hr hro hno hk hi hc1 hl hbc hv h64
  go_enter Try.func41, Try.ntmps41
  go_wp2_with fail
  refine HM.out.mono ?_
  rintro e w1 ⟨rfl, hb1⟩
  have HB1 := Lib.hid hb1
  clear HM hb1
  go_wp2_with fail
  refine (HAT.out w1 HB1.out).mono ?_
  rintro e w2 ⟨rfl, hb2⟩
  have HB2 := Lib.hid (HB1.out.trans (hb2.mono HB1.out.size))
  clear HB1 HAT hb2
  go_wp2_with fail
  refine (HRM.out w2 HB2.out).mono ?_
  rintro e w3 ⟨rfl, hb3⟩
  have HB3 := Lib.hid (HB2.out.trans (hb3.mono HB2.out.size))
  clear HB2 HRM hb3
  have z0 := HC0.out w3 HB3.out
  go_wp2
  go_ret
  rw [HR.out]; exact RRes.same H.out HB3.out _
set_option maxHeartbeats 8000000 in
theorem refApp_there (h : Rd w q v S R) (hf : Fit S (pl R)) (s : ByteArray) (bv : Value) (b : List UInt8) (hs : Sl w bv b) (hm : mayB s.data.toList = true) (hi : isP (pl R) s.data.toList = true) (hno : ¬ S.cap < totalP (pl R) + b.length) {r : Int × Ds × List Fp} (hr : appendS S (pl R) s.data.toList b = r) :
    Calls Try.prog 41 #[.pointer (some ⟨q, 0, none⟩), .string s, bv] w (RRes w q v R r) := by
  have hfo : Try.prog.follows .mixedOrders = true := by kernel_rfl
  have hl : R.length ≤ 64 := by have := hf.few; rw [pl_len] at this; exact this
  obtain ⟨i0b, hib, hz0b, hz1b, hz2b⟩ := info_parts info_u8
  obtain ⟨A2, c2, hbv, hbc, _⟩ := id hs
  have hm2 := refMay_any s w
  rw [hm] at hm2
  have HM := Lib.hid hm2
  have H := Lib.hid h
  have HF := Lib.hid hf
  have HS := Lib.hid hs
  have HL := Lib.hid hl
  obtain ⟨k, hk⟩ : ∃ k, posP (pl R) s.data.toList = k := ⟨_, rfl⟩
  have HK := Lib.hid hk
  have HI := Lib.hid hi
  have HAT := Lib.hid (show ∀ W, Below w.heap.size w W → Calls Try.prog 59 #[.pointer (some ⟨q, 0, none⟩), .string s] W fun e w' => e = .returned (.tuple #[.int .i64 (k : Int), .bool true]) ∧ Below W.heap.size W w' from fun W hW => by have := at_any (h.below hW) hl s; rw [hk, hi] at this; exact this)
  obtain ⟨ro, hro⟩ : ∃ ro : Int, ro = (S.cap : Int) - (totalP (pl R) : Int) := ⟨_, rfl⟩
  have HRO := Lib.hid hro
  have HRM := Lib.hid (show ∀ W, Below w.heap.size w W → Calls Try.prog 36 #[.pointer (some ⟨q, 0, none⟩)] W fun e w' => e = .returned (.int .i64 ro) ∧ Below W.heap.size W w' from fun W hW => by rw [hro]; exact room_ref (h.below hW) hl hf.cap hf.room)
  obtain ⟨A, cA, hv, hc1, hc2⟩ := h.row.shape
  have HC0 := Lib.hid (show ∀ W, Below w.heap.size w W → W.cell? ⟨q, 0, none⟩ = some (.slice A R.length cA) from fun W hW => by have := (h.below hW).c0; rw [hv] at this; exact this)
  have HR := Lib.hid (show r = ((if wOk S = true then 0 else 8), wS S, if wOk S = true then addP (pl R) s.data.toList b else if wLast S = true then addP (pl R) s.data.toList b else pl R) by
    rw [← hr, ← writeS_w]; unfold appendS; rw [if_pos hm, if_neg (fun e => e.elim hno (fun e => by obtain ⟨_, _, e2⟩ := find_some_pos hf.rise hi; rw [e2] at e; exact absurd e.1 (by simp)))])
  have hkk : k < R.length := by obtain ⟨hk2, _⟩ := isP_true hi; rw [hk, pl_len] at hk2; exact hk2
  have HKK := Lib.hid hkk
  have HKS := Lib.hid (fun W (hk : Keep (fun i => i = q) w W) => h.slq hs hk)
  obtain ⟨g, c, rfl, _, _, _, _⟩ := h.row.form (by omega)
  injection hv with a1 a2 a3
  subst a1; subst a3
  obtain ⟨nn, hnn⟩ : ∃ nn, nn = R.length := ⟨_, rfl⟩
  have HNN := Lib.hid hnn
  obtain ⟨f0, hf0⟩ : ∃ f0, R[k] = f0 := ⟨_, rfl⟩
  have HG0 := Lib.hid hf0
  have HF0 := Lib.hid (show f0 ∈ R from hf0 ▸ List.getElem_mem hkk)
  obtain ⟨bl, hbl⟩ : ∃ bl, bl = R[k].bs.length := ⟨_, rfl⟩
  have HBL := Lib.hid hbl
  have HLN := Lib.hid (show f0.bs.length + b.length ≤ 1000000000 by have h1 := mem_total (List.mem_map.2 ⟨f0, HF0.out, rfl⟩ : f0.p ∈ pl R); have h1 : f0.bs.length ≤ totalP (pl R) := h1; have := hf.cap; omega)
  have hkI : (k : Int) < (nn : Int) := by omega
  have hk0 : (0 : Int) ≤ (k : Int) := by omega
  have h64 : (k : Int) < 64 := by omega
  have HPL := Lib.hid (show pl (R.set k ⟨f0.nm, f0.bs ++ b, f0.la, .nilFunc⟩) = addP (pl R) s.data.toList b by
    rw [addP_there hf.rise _ b hi hk (by rw [pl_len]; exact hkk), pl_set, pl_get]; subst hf0; rfl)
  have hd : decide (ro < (b.length : Int)) = false := decide_eq_false (by omega)
  subst hbv
  rw [← hnn] at HC0
  clear h hf hs hm hm2 hr hro hno hk hi hc1 hl hbc hbl hf0 hnn hkk
  go_enter Try.func41, Try.ntmps41
  go_wp2_with fail
  refine HM.out.mono ?_
  rintro e w1 ⟨rfl, hb1⟩
  have HB1 := Lib.hid hb1
  clear HM hb1
  go_wp2_with fail
  refine (HAT.out w1 HB1.out).mono ?_
  rintro e w2 ⟨rfl, hb2⟩
  have HB2 := Lib.hid (HB1.out.trans (hb2.mono HB1.out.size))
  clear HB1 HAT hb2
  go_wp2_with fail
  refine (HRM.out w2 HB2.out).mono ?_
  rintro e w3 ⟨rfl, hb3⟩
  have HB3 := Lib.hid (HB2.out.trans (hb3.mono HB2.out.size))
  clear HB2 HRM hb3
  have z0 := HC0.out w3 HB3.out
  have hwr := write_ref (H.out.below HB3.out) HF.out
  clear HC0
  cases hwo : wOk S with
  | true =>
    rw [hwo] at hwr HR
    rw [if_pos rfl, if_pos rfl] at HR
    have HWR := Lib.hid hwr
    clear hwr hwo
    go_wp2_with fail
    refine HWR.out.mono ?_
    rintro e w4 ⟨rfl, h4, k4⟩
    have H4 := Lib.hid h4
    have HKW := Lib.hid (trans_q (Keep.of_below (S := fun i => i = q ∨ (Value.slice (some ⟨g, 0, none⟩) R.length c).ownBlock = some i) HB3.out) (k4.mono (fun i hi => .inl hi)))
    have HSZ := Lib.hid (Nat.le_trans HB3.out.size k4.size)
    have HSB := Lib.hid (HKS.out w4 (trans_q (Keep.of_below (S := fun i => i = q) HB3.out) k4))
    clear h4 k4 z0 HWR
    obtain ⟨A1, c1, eV, hbV, x0, x1, x2, x3, xf⟩ := (H4.out.below (show Below w4.heap.size w4 w4.drew from (Below.refl _ _).drew)).fileAt HKK.out
    have HC := Lib.hid (show ∀ X, Below w4.drew.heap.size w4.drew X → X.cell? ⟨q, 0, none⟩ = some (.slice (some ⟨g, 0, none⟩) nn c) ∧ X.cell? ⟨g, k * 3 + 1, none⟩ = some (.slice A1 bl c1) from fun X hX => ⟨(hX.cell (World.block_lt_of_cell? _ _ x0)).trans (x0.trans (congrArg (fun z => some (Value.slice (some ⟨g, 0, none⟩) z c)) HNN.out.symm)), (hX.cell (World.block_lt_of_cell? _ _ x2)).trans (x2.trans (congrArg (fun z => some (Value.slice A1 z c1)) HBL.out.symm))⟩)
    have EV := Lib.hid (show f0.v = Value.slice A1 bl c1 from (congrArg Fr.v HG0.out.symm).trans (eV.trans (congrArg (fun z => Value.slice A1 z c1) HBL.out.symm)))
    have XF := Lib.hid xf
    clear x0 x1 x2 x3 xf eV hbV
    go_wp2_with fail
    refine tail_begin 18 (S := fun X => Below w4.drew.heap.size w4.drew X) hfo (by kernel_rfl) (Below.refl _ _) (fun hS0 => ?_)
    refine' tail_take (i := 0) (oi := ⟨some 69, _, _, _, _, _⟩) (v := _) rfl (by kernel_rfl) (by kernel_rfl) (by decide) (fun _ _ _ h => h) (Or.inl ⟨by rfl, ?y0a⟩) hS0 ?r0a
    case y0a => (intro w' hSw; obtain ⟨s0, s1⟩ := HC.out w' hSw; go_simp; try rfl)
    try simp only [Act.put, List.setIfInBounds_toArray, List.set_cons_zero, List.set_cons_succ]
    refine' tail_take (i := 1) (oi := ⟨some 70, _, _, _, _, _⟩) (v := _) rfl (by kernel_rfl) (by kernel_rfl) (by decide) (fun _ _ _ h => h) (Or.inl ⟨by rfl, ?y1a⟩) hS0 ?r1a
    case y1a => (intro w' hSw; obtain ⟨s0, s1⟩ := HC.out w' hSw; go_simp; try rfl)
    try simp only [Act.put, List.setIfInBounds_toArray, List.set_cons_zero, List.set_cons_succ]
    refine' tail_take (i := 2) (oi := ⟨some 71, _, _, _, _, _⟩) (v := _) rfl (by kernel_rfl) (by kernel_rfl) (by decide) (fun _ _ _ h => h) (Or.inl ⟨by rfl, ?y2a⟩) hS0 ?r2a
    case y2a => (intro w' hSw; obtain ⟨s0, s1⟩ := HC.out w' hSw; go_simp; try rfl)
    try simp only [Act.put, List.setIfInBounds_toArray, List.set_cons_zero, List.set_cons_succ]
    refine' tail_take (i := 3) (oi := ⟨some 72, _, _, _, _, _⟩) (v := _) rfl (by kernel_rfl) (by kernel_rfl) (by decide) (fun _ _ _ h => h) (Or.inl ⟨by rfl, ?y3a⟩) hS0 ?r3a
    case y3a => (intro w' hSw; obtain ⟨s0, s1⟩ := HC.out w' hSw; go_simp; try rfl)
    try simp only [Act.put, List.setIfInBounds_toArray, List.set_cons_zero, List.set_cons_succ]
    refine' tail_take (i := 4) (oi := ⟨some 73, _, _, _, _, _⟩) (v := _) rfl (by kernel_rfl) (by kernel_rfl) (by decide) (fun _ _ _ h => h) (Or.inl ⟨by rfl, ?y4a⟩) hS0 ?r4a
    case y4a => (intro w' hSw; obtain ⟨s0, s1⟩ := HC.out w' hSw; go_simp; try rfl)
    try simp only [Act.put, List.setIfInBounds_toArray, List.set_cons_zero, List.set_cons_succ]
    refine' tail_take (i := 5) (oi := ⟨some 74, _, _, _, _, _⟩) (v := _) rfl (by kernel_rfl) (by kernel_rfl) (by decide) (fun _ _ _ h => h) (Or.inl ⟨by rfl, ?y5a⟩) hS0 ?r5a
    case y5a => (intro w' hSw; obtain ⟨s0, s1⟩ := HC.out w' hSw; go_simp; try rfl)
    try simp only [Act.put, List.setIfInBounds_toArray, List.set_cons_zero, List.set_cons_succ]
    refine' tail_take (i := 6) (oi := ⟨some 75, _, _, _, _, _⟩) (v := _) rfl (by kernel_rfl) (by kernel_rfl) (by decide) (fun _ _ _ h => h) (Or.inl ⟨by rfl, ?y6a⟩) hS0 ?r6a
    case y6a => (intro w' hSw; obtain ⟨s0, s1⟩ := HC.out w' hSw; go_simp; try rfl)
    try simp only [Act.put, List.setIfInBounds_toArray, List.set_cons_zero, List.set_cons_succ]
    refine' tail_take (i := 7) (oi := ⟨some 76, _, _, _, _, _⟩) (v := _) rfl (by kernel_rfl) (by kernel_rfl) (by decide) (fun _ _ _ h => h) (Or.inl ⟨by rfl, ?y7a⟩) hS0 ?r7a
    case y7a => (intro w' hSw; obtain ⟨s0, s1⟩ := HC.out w' hSw; go_simp; try rfl)
    try simp only [Act.put, List.setIfInBounds_toArray, List.set_cons_zero, List.set_cons_succ]
    refine' tail_take (i := 8) (oi := ⟨some 77, _, _, _, _, _⟩) (v := _) rfl (by kernel_rfl) (by kernel_rfl) (by decide) (fun _ _ _ h => h) (Or.inl ⟨by rfl, ?y8a⟩) hS0 ?r8a
    case y8a => (intro w' hSw; obtain ⟨s0, s1⟩ := HC.out w' hSw; go_simp; try rfl)
    try simp only [Act.put, List.setIfInBounds_toArray, List.set_cons_zero, List.set_cons_succ]
    refine' tail_take (i := 9) (oi := ⟨some 78, _, _, _, _, _⟩) (v := _) rfl (by kernel_rfl) (by kernel_rfl) (by decide) (fun _ _ _ h => h) (Or.inl ⟨by rfl, ?y9a⟩) hS0 ?r9a
    case y9a => (intro w' hSw; obtain ⟨s0, s1⟩ := HC.out w' hSw; go_simp; try rfl)
    try simp only [Act.put, List.setIfInBounds_toArray, List.set_cons_zero, List.set_cons_succ]
    refine' tail_take (i := 10) (oi := ⟨some 79, _, _, _, _, _⟩) (v := _) rfl (by kernel_rfl) (by kernel_rfl) (by decide) (fun _ _ _ h => h) (Or.inl ⟨by rfl, ?y10a⟩) hS0 ?r10a
    case y10a => (intro w' hSw; obtain ⟨s0, s1⟩ := HC.out w' hSw; go_simp; try rfl)
    try simp only [Act.put, List.setIfInBounds_toArray, List.set_cons_zero, List.set_cons_succ]
    refine' tail_take (i := 11) (oi := ⟨some 80, _, _, _, _, _⟩) (v := _) rfl (by kernel_rfl) (by kernel_rfl) (by decide) (fun _ _ _ h => h) (Or.inl ⟨by rfl, ?y11a⟩) hS0 ?r11a
    case y11a => (intro w' hSw; obtain ⟨s0, s1⟩ := HC.out w' hSw; go_simp; try rfl)
    try simp only [Act.put, List.setIfInBounds_toArray, List.set_cons_zero, List.set_cons_succ]
    refine' tail_take (i := 12) (oi := ⟨some 81, _, _, _, _, _⟩) (v := _) rfl (by kernel_rfl) (by kernel_rfl) (by decide) (fun _ _ _ h => h) (Or.inl ⟨by rfl, ?y12a⟩) hS0 ?r12a
    case y12a => (intro w' hSw; obtain ⟨s0, s1⟩ := HC.out w' hSw; go_simp; try rfl)
    try simp only [Act.put, List.setIfInBounds_toArray, List.set_cons_zero, List.set_cons_succ]
    refine' tail_take (i := 14) (oi := ⟨some 83, _, _, _, _, _⟩) (v := _) rfl (by kernel_rfl) (by kernel_rfl) (by decide) (fun _ _ _ h => h) (Or.inl ⟨by rfl, ?y14a⟩) hS0 ?r14a
    case y14a => (intro w' hSw; obtain ⟨s0, s1⟩ := HC.out w' hSw; go_simp; try rfl)
    try simp only [Act.put, List.setIfInBounds_toArray, List.set_cons_zero, List.set_cons_succ]
    have hob : Own w4.drew 0 5 (.slice A1 bl c1) f0.bs := by have := H4.out.byt f0 HF0.out; rw [EV.out] at this; exact this
    refine tail_one (i := 13) (by kernel_rfl) rfl (by decide) (fun K hK => ?_)
    refine step_append_bytesA w4.drew rfl (.const (.slice none 0 0)) (.tmp 81) 38 rfl 0 5 i0b Try.underlying38 hib hz0b hz1b hz2b _ _ rfl Own.nil _ f0.bs rfl hob.sl (by have := HLN.out; simp; omega) (Nat.zero_le _) ?_
    intro v6 W6 ho6 hgr6 hloc6
    rw [List.nil_append] at ho6
    have hS6 : Below w4.drew.heap.size w4.drew W6 := (Below.refl _ _).grown hgr6 (Nat.le_refl _) (fun i hi => by cases hi)
    have hf6 : ∀ i, v6.ownBlock = some i → w4.drew.heap.size ≤ i := fun i hi => by
      rcases hloc6 with e | e
      · rw [e] at hi; cases hi
      · rw [e] at hi; cases hi; exact Nat.le_refl _
    have HO6 := Lib.hid ho6
    obtain ⟨A6, n6, c6, hv6⟩ := ho6.shape
    clear hgr6 hloc6 ho6 hob
    refine hK.out _ _ hS6 (fun _ => ?_)
    clear hK K
    try simp only [Act.put, List.setIfInBounds_toArray, List.set_cons_zero, List.set_cons_succ]
    refine tail_one (i := 15) (by kernel_rfl) rfl (by decide) (fun K hK => ?_)
    refine step_append_bytesA W6 rfl (.tmp 82) (.tmp 83) 38 rfl 0 5 i0b Try.underlying38 hib hz0b hz1b hz2b _ _ rfl HO6.out _ b rfl ((show Sl w4.drew _ b from HSB.out.drew).below hS6) (by have := HLN.out; omega) (Nat.zero_le _) ?_
    intro v7 W7 ho7 hgr7 hloc7
    have hS7 : Below w4.drew.heap.size w4.drew W7 := hS6.grown hgr7 hS6.size hf6
    have hf7 : ∀ i, v7.ownBlock = some i → w4.heap.size ≤ i := fun i hi => by
      rcases hloc7 with e | e
      · rw [e] at hi; exact hf6 i hi
      · rw [e] at hi; cases hi; exact hS6.size
    have HO7 := Lib.hid ho7
    obtain ⟨A7, n7, c7, hv7⟩ : ∃ A n c, v7 = .slice A n c := ho7.shape
    clear hgr7 hloc7 ho7 HO6
    refine hK.out _ _ hS7 (fun _ => ?_)
    clear hK K
    try simp only [Act.put, List.setIfInBounds_toArray, List.set_cons_zero, List.set_cons_succ]
    refine' tail_take (i := 16) (oi := ⟨some 85, _, _, _, _, _⟩) (v := _) rfl (by kernel_rfl) (by kernel_rfl) (by decide) (fun _ _ _ h => h) (Or.inl ⟨by rfl, ?y16a⟩) hS7 ?r16a
    case y16a => (intro w' hSw; obtain ⟨s0, s1⟩ := HC.out w' hSw; go_simp; try rfl)
    try simp only [Act.put, List.setIfInBounds_toArray, List.set_cons_zero, List.set_cons_succ]
    refine' tail_take (i := 17) (oi := ⟨some 86, _, _, _, _, _⟩) (v := _) rfl (by kernel_rfl) (by kernel_rfl) (by decide) (fun _ _ _ h => h) (Or.inl ⟨by rfl, ?y17a⟩) hS7 ?r17a
    case y17a => (intro w' hSw; obtain ⟨s0, s1⟩ := HC.out w' hSw; go_simp; try rfl)
    try simp only [Act.put, List.setIfInBounds_toArray, List.set_cons_zero, List.set_cons_succ]
    have hR7 := H4.out.below ((show Below w4.heap.size w4 w4.drew from (Below.refl _ _).drew).trans hS7)
    obtain ⟨A9, c9, e9, _, _, _, x2, _, xf⟩ := hR7.fileAt HKK.out
    have xf1 := xf (k * 3 + 1)
    have HFIN := Lib.hid (hR7.set1 HKK.out ⟨f0.nm, f0.bs ++ b, f0.la, v7⟩ (show f0.nm = _ from congrArg Fr.nm HG0.out.symm) (show f0.la = _ from congrArg Fr.la HG0.out.symm) HO7.out)
    have HB7 := Lib.hid (show Below w4.heap.size w4 W7 from (show Below w4.heap.size w4 w4.drew from (Below.refl _ _).drew).trans hS7)
    have HF7 := Lib.hid hf7
    rw [hv7]
    rw [hv7] at HFIN HF7
    clear hR7 e9 hf7 hv7 hf6 xf
    refine tail_last (by kernel_rfl) rfl (by kernel_rfl) (fun K hK => ?_)
    go_simp
    refine hK.out _ _ ?_
    clear hK K
    try simp only [Act.put, List.setIfInBounds_toArray, List.set_cons_zero, List.set_cons_succ]
    clear xf1 x2 HC
    go_wp2_with fail
    refine (done_ref _ _).mono ?_
    rintro e wd ⟨rfl, rfl⟩
    go_wp2
    go_ret
    rw [HR.out]
    refine ⟨_, _, rfl, HFIN.out, ?_, ?_, RFoot.set HKK.out (fun i hi => .inr (Nat.le_trans HSZ.out (HF7.out i hi)))⟩
    · rw [← HPL.out, pl_set, pl_set]
      rfl
    · exact trans_q (trans_q HKW.out (Keep.of_below HB7.out)) (Keep.setCell _ _ _ (.inr rfl))
  | false =>
    cases hwl : wLast S with
    | true =>
      rw [hwo, hwl] at hwr HR
      simp only [Bool.false_eq_true, if_false, if_true] at HR
      have HWR := Lib.hid hwr
      clear hwr hwo hwl
      go_wp2_with fail
      refine HWR.out.mono ?_
      rintro e w4 ⟨rfl, h4, k4⟩
      have H4 := Lib.hid h4
      have HKW := Lib.hid (trans_q (Keep.of_below (S := fun i => i = q ∨ (Value.slice (some ⟨g, 0, none⟩) R.length c).ownBlock = some i) HB3.out) (k4.mono (fun i hi => .inl hi)))
      have HSZ := Lib.hid (Nat.le_trans HB3.out.size k4.size)
      have HSB := Lib.hid (HKS.out w4 (trans_q (Keep.of_below (S := fun i => i = q) HB3.out) k4))
      clear h4 k4 z0 HWR
      obtain ⟨A1, c1, eV, hbV, x0, x1, x2, x3, xf⟩ := (H4.out.below (show Below w4.heap.size w4 w4.drew from (Below.refl _ _).drew)).fileAt HKK.out
      have HC := Lib.hid (show ∀ X, Below w4.drew.heap.size w4.drew X → X.cell? ⟨q, 0, none⟩ = some (.slice (some ⟨g, 0, none⟩) nn c) ∧ X.cell? ⟨g, k * 3 + 1, none⟩ = some (.slice A1 bl c1) from fun X hX => ⟨(hX.cell (World.block_lt_of_cell? _ _ x0)).trans (x0.trans (congrArg (fun z => some (Value.slice (some ⟨g, 0, none⟩) z c)) HNN.out.symm)), (hX.cell (World.block_lt_of_cell? _ _ x2)).trans (x2.trans (congrArg (fun z => some (Value.slice A1 z c1)) HBL.out.symm))⟩)
      have EV := Lib.hid (show f0.v = Value.slice A1 bl c1 from (congrArg Fr.v HG0.out.symm).trans (eV.trans (congrArg (fun z => Value.slice A1 z c1) HBL.out.symm)))
      have XF := Lib.hid xf
      clear x0 x1 x2 x3 xf eV hbV
      go_wp2_with fail
      refine tail_begin 18 (S := fun X => Below w4.drew.heap.size w4.drew X) hfo (by kernel_rfl) (Below.refl _ _) (fun hS0 => ?_)
      refine' tail_take (i := 0) (oi := ⟨some 69, _, _, _, _, _⟩) (v := _) rfl (by kernel_rfl) (by kernel_rfl) (by decide) (fun _ _ _ h => h) (Or.inl ⟨by rfl, ?y0b⟩) hS0 ?r0b
      case y0b => (intro w' hSw; obtain ⟨s0, s1⟩ := HC.out w' hSw; go_simp; try rfl)
      try simp only [Act.put, List.setIfInBounds_toArray, List.set_cons_zero, List.set_cons_succ]
      refine' tail_take (i := 1) (oi := ⟨some 70, _, _, _, _, _⟩) (v := _) rfl (by kernel_rfl) (by kernel_rfl) (by decide) (fun _ _ _ h => h) (Or.inl ⟨by rfl, ?y1b⟩) hS0 ?r1b
      case y1b => (intro w' hSw; obtain ⟨s0, s1⟩ := HC.out w' hSw; go_simp; try rfl)
      try simp only [Act.put, List.setIfInBounds_toArray, List.set_cons_zero, List.set_cons_succ]
      refine' tail_take (i := 2) (oi := ⟨some 71, _, _, _, _, _⟩) (v := _) rfl (by kernel_rfl) (by kernel_rfl) (by decide) (fun _ _ _ h => h) (Or.inl ⟨by rfl, ?y2b⟩) hS0 ?r2b
      case y2b => (intro w' hSw; obtain ⟨s0, s1⟩ := HC.out w' hSw; go_simp; try rfl)
      try simp only [Act.put, List.setIfInBounds_toArray, List.set_cons_zero, List.set_cons_succ]
      refine' tail_take (i := 3) (oi := ⟨some 72, _, _, _, _, _⟩) (v := _) rfl (by kernel_rfl) (by kernel_rfl) (by decide) (fun _ _ _ h => h) (Or.inl ⟨by rfl, ?y3b⟩) hS0 ?r3b
      case y3b => (intro w' hSw; obtain ⟨s0, s1⟩ := HC.out w' hSw; go_simp; try rfl)
      try simp only [Act.put, List.setIfInBounds_toArray, List.set_cons_zero, List.set_cons_succ]
      refine' tail_take (i := 4) (oi := ⟨some 73, _, _, _, _, _⟩) (v := _) rfl (by kernel_rfl) (by kernel_rfl) (by decide) (fun _ _ _ h => h) (Or.inl ⟨by rfl, ?y4b⟩) hS0 ?r4b
      case y4b => (intro w' hSw; obtain ⟨s0, s1⟩ := HC.out w' hSw; go_simp; try rfl)
      try simp only [Act.put, List.setIfInBounds_toArray, List.set_cons_zero, List.set_cons_succ]
      refine' tail_take (i := 5) (oi := ⟨some 74, _, _, _, _, _⟩) (v := _) rfl (by kernel_rfl) (by kernel_rfl) (by decide) (fun _ _ _ h => h) (Or.inl ⟨by rfl, ?y5b⟩) hS0 ?r5b
      case y5b => (intro w' hSw; obtain ⟨s0, s1⟩ := HC.out w' hSw; go_simp; try rfl)
      try simp only [Act.put, List.setIfInBounds_toArray, List.set_cons_zero, List.set_cons_succ]
      refine' tail_take (i := 6) (oi := ⟨some 75, _, _, _, _, _⟩) (v := _) rfl (by kernel_rfl) (by kernel_rfl) (by decide) (fun _ _ _ h => h) (Or.inl ⟨by rfl, ?y6b⟩) hS0 ?r6b
      case y6b => (intro w' hSw; obtain ⟨s0, s1⟩ := HC.out w' hSw; go_simp; try rfl)
      try simp only [Act.put, List.setIfInBounds_toArray, List.set_cons_zero, List.set_cons_succ]
      refine' tail_take (i := 7) (oi := ⟨some 76, _, _, _, _, _⟩) (v := _) rfl (by kernel_rfl) (by kernel_rfl) (by decide) (fun _ _ _ h => h) (Or.inl ⟨by rfl, ?y7b⟩) hS0 ?r7b
      case y7b => (intro w' hSw; obtain ⟨s0, s1⟩ := HC.out w' hSw; go_simp; try rfl)
      try simp only [Act.put, List.setIfInBounds_toArray, List.set_cons_zero, List.set_cons_succ]
      refine' tail_take (i := 8) (oi := ⟨some 77, _, _, _, _, _⟩) (v := _) rfl (by kernel_rfl) (by kernel_rfl) (by decide) (fun _ _ _ h => h) (Or.inl ⟨by rfl, ?y8b⟩) hS0 ?r8b
      case y8b => (intro w' hSw; obtain ⟨s0, s1⟩ := HC.out w' hSw; go_simp; try rfl)
      try simp only [Act.put, List.setIfInBounds_toArray, List.set_cons_zero, List.set_cons_succ]
      refine' tail_take (i := 9) (oi := ⟨some 78, _, _, _, _, _⟩) (v := _) rfl (by kernel_rfl) (by kernel_rfl) (by decide) (fun _ _ _ h => h) (Or.inl ⟨by rfl, ?y9b⟩) hS0 ?r9b
      case y9b => (intro w' hSw; obtain ⟨s0, s1⟩ := HC.out w' hSw; go_simp; try rfl)
      try simp only [Act.put, List.setIfInBounds_toArray, List.set_cons_zero, List.set_cons_succ]
      refine' tail_take (i := 10) (oi := ⟨some 79, _, _, _, _, _⟩) (v := _) rfl (by kernel_rfl) (by kernel_rfl) (by decide) (fun _ _ _ h => h) (Or.inl ⟨by rfl, ?y10b⟩) hS0 ?r10b
      case y10b => (intro w' hSw; obtain ⟨s0, s1⟩ := HC.out w' hSw; go_simp; try rfl)
      try simp only [Act.put, List.setIfInBounds_toArray, List.set_cons_zero, List.set_cons_succ]
      refine' tail_take (i := 11) (oi := ⟨some 80, _, _, _, _, _⟩) (v := _) rfl (by kernel_rfl) (by kernel_rfl) (by decide) (fun _ _ _ h => h) (Or.inl ⟨by rfl, ?y11b⟩) hS0 ?r11b
      case y11b => (intro w' hSw; obtain ⟨s0, s1⟩ := HC.out w' hSw; go_simp; try rfl)
      try simp only [Act.put, List.setIfInBounds_toArray, List.set_cons_zero, List.set_cons_succ]
      refine' tail_take (i := 12) (oi := ⟨some 81, _, _, _, _, _⟩) (v := _) rfl (by kernel_rfl) (by kernel_rfl) (by decide) (fun _ _ _ h => h) (Or.inl ⟨by rfl, ?y12b⟩) hS0 ?r12b
      case y12b => (intro w' hSw; obtain ⟨s0, s1⟩ := HC.out w' hSw; go_simp; try rfl)
      try simp only [Act.put, List.setIfInBounds_toArray, List.set_cons_zero, List.set_cons_succ]
      refine' tail_take (i := 14) (oi := ⟨some 83, _, _, _, _, _⟩) (v := _) rfl (by kernel_rfl) (by kernel_rfl) (by decide) (fun _ _ _ h => h) (Or.inl ⟨by rfl, ?y14b⟩) hS0 ?r14b
      case y14b => (intro w' hSw; obtain ⟨s0, s1⟩ := HC.out w' hSw; go_simp; try rfl)
      try simp only [Act.put, List.setIfInBounds_toArray, List.set_cons_zero, List.set_cons_succ]
      have hob : Own w4.drew 0 5 (.slice A1 bl c1) f0.bs := by have := H4.out.byt f0 HF0.out; rw [EV.out] at this; exact this
      refine tail_one (i := 13) (by kernel_rfl) rfl (by decide) (fun K hK => ?_)
      refine step_append_bytesA w4.drew rfl (.const (.slice none 0 0)) (.tmp 81) 38 rfl 0 5 i0b Try.underlying38 hib hz0b hz1b hz2b _ _ rfl Own.nil _ f0.bs rfl hob.sl (by have := HLN.out; simp; omega) (Nat.zero_le _) ?_
      intro v6 W6 ho6 hgr6 hloc6
      rw [List.nil_append] at ho6
      have hS6 : Below w4.drew.heap.size w4.drew W6 := (Below.refl _ _).grown hgr6 (Nat.le_refl _) (fun i hi => by cases hi)
      have hf6 : ∀ i, v6.ownBlock = some i → w4.drew.heap.size ≤ i := fun i hi => by
        rcases hloc6 with e | e
        · rw [e] at hi; cases hi
        · rw [e] at hi; cases hi; exact Nat.le_refl _
      have HO6 := Lib.hid ho6
      obtain ⟨A6, n6, c6, hv6⟩ := ho6.shape
      clear hgr6 hloc6 ho6 hob
      refine hK.out _ _ hS6 (fun _ => ?_)
      clear hK K
      try simp only [Act.put, List.setIfInBounds_toArray, List.set_cons_zero, List.set_cons_succ]
      refine tail_one (i := 15) (by kernel_rfl) rfl (by decide) (fun K hK => ?_)
      refine step_append_bytesA W6 rfl (.tmp 82) (.tmp 83) 38 rfl 0 5 i0b Try.underlying38 hib hz0b hz1b hz2b _ _ rfl HO6.out _ b rfl ((show Sl w4.drew _ b from HSB.out.drew).below hS6) (by have := HLN.out; omega) (Nat.zero_le _) ?_
      intro v7 W7 ho7 hgr7 hloc7
      have hS7 : Below w4.drew.heap.size w4.drew W7 := hS6.grown hgr7 hS6.size hf6
      have hf7 : ∀ i, v7.ownBlock = some i → w4.heap.size ≤ i := fun i hi => by
        rcases hloc7 with e | e
        · rw [e] at hi; exact hf6 i hi
        · rw [e] at hi; cases hi; exact hS6.size
      have HO7 := Lib.hid ho7
      obtain ⟨A7, n7, c7, hv7⟩ : ∃ A n c, v7 = .slice A n c := ho7.shape
      clear hgr7 hloc7 ho7 HO6
      refine hK.out _ _ hS7 (fun _ => ?_)
      clear hK K
      try simp only [Act.put, List.setIfInBounds_toArray, List.set_cons_zero, List.set_cons_succ]
      refine' tail_take (i := 16) (oi := ⟨some 85, _, _, _, _, _⟩) (v := _) rfl (by kernel_rfl) (by kernel_rfl) (by decide) (fun _ _ _ h => h) (Or.inl ⟨by rfl, ?y16b⟩) hS7 ?r16b
      case y16b => (intro w' hSw; obtain ⟨s0, s1⟩ := HC.out w' hSw; go_simp; try rfl)
      try simp only [Act.put, List.setIfInBounds_toArray, List.set_cons_zero, List.set_cons_succ]
      refine' tail_take (i := 17) (oi := ⟨some 86, _, _, _, _, _⟩) (v := _) rfl (by kernel_rfl) (by kernel_rfl) (by decide) (fun _ _ _ h => h) (Or.inl ⟨by rfl, ?y17b⟩) hS7 ?r17b
      case y17b => (intro w' hSw; obtain ⟨s0, s1⟩ := HC.out w' hSw; go_simp; try rfl)
      try simp only [Act.put, List.setIfInBounds_toArray, List.set_cons_zero, List.set_cons_succ]
      have hR7 := H4.out.below ((show Below w4.heap.size w4 w4.drew from (Below.refl _ _).drew).trans hS7)
      obtain ⟨A9, c9, e9, _, _, _, x2, _, xf⟩ := hR7.fileAt HKK.out
      have xf1 := xf (k * 3 + 1)
      have HFIN := Lib.hid (hR7.set1 HKK.out ⟨f0.nm, f0.bs ++ b, f0.la, v7⟩ (show f0.nm = _ from congrArg Fr.nm HG0.out.symm) (show f0.la = _ from congrArg Fr.la HG0.out.symm) HO7.out)
      have HB7 := Lib.hid (show Below w4.heap.size w4 W7 from (show Below w4.heap.size w4 w4.drew from (Below.refl _ _).drew).trans hS7)
      have HF7 := Lib.hid hf7
      rw [hv7]
      rw [hv7] at HFIN HF7
      clear hR7 e9 hf7 hv7 hf6 xf
      refine tail_last (by kernel_rfl) rfl (by kernel_rfl) (fun K hK => ?_)
      go_simp
      refine hK.out _ _ ?_
      clear hK K
      try simp only [Act.put, List.setIfInBounds_toArray, List.set_cons_zero, List.set_cons_succ]
      clear xf1 x2 HC
      go_wp2_with fail
      refine (done_ref _ _).mono ?_
      rintro e wd ⟨rfl, rfl⟩
      go_wp2
      go_ret
      rw [HR.out]
      refine ⟨_, _, rfl, HFIN.out, ?_, ?_, RFoot.set HKK.out (fun i hi => .inr (Nat.le_trans HSZ.out (HF7.out i hi)))⟩
      · rw [← HPL.out, pl_set, pl_set]
        rfl
      · exact trans_q (trans_q HKW.out (Keep.of_below HB7.out)) (Keep.setCell _ _ _ (.inr rfl))
    | false =>
      rw [hwo, hwl] at hwr HR
      simp only [Bool.false_eq_true, if_false] at HR
      have HWR := Lib.hid hwr
      clear hwr hwo hwl
      go_wp2_with fail
      refine HWR.out.mono ?_
      rintro e w4 ⟨rfl, h4, k4⟩
      have H4 := Lib.hid h4
      have HK4 := Lib.hid ((Keep.of_below (S := fun i => i = q) HB3.out).trans k4 (fun _ h => h) (fun _ _ h => h))
      clear h4 k4 z0
      go_wp2_with fail
      refine (done_ref _ _).mono ?_
      rintro e wd ⟨rfl, rfl⟩
      go_wp2
      go_ret
      rw [HR.out]
      exact RRes.num H4.out HK4.out 8
end
end Go.Proofs.Ytdbkhigocjmfoaa

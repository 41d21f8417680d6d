/-
  The walk of the reader's Vector.
-/
import Derived.Test.YthlopecllhdmhaaDoorReadD
import Derived.Deep.MidRow
import Derived.Test.YthlopecllhdmhaaDoorEvMem
namespace Go.Proofs.YthlopecllhdmhaaDoor
open Go.RowKit
set_option linter.unusedVariables false
set_option linter.unusedSimpArgs false

/-- The numbers that 128 bytes say. -/
def vecN (p : List UInt8) : List Nat := (List.range 16).map (fun i => beN ((p.drop (8 * i)).take 8))
theorem vecN_length (p : List UInt8) : (vecN p).length = 16 := by simp [vecN]
theorem vecN_get (p : List UInt8) (k : Nat) (h : k < (vecN p).length) : (vecN p)[k] = beN ((p.drop (8 * k)).take 8) := by simp [vecN]
/-- A part of a slice. -/
theorem Sl.mid {w : World} {b o n c : Nat} {p : List UInt8} (h : Sl w (.slice (some ⟨b, o, none⟩) n c) p) (i m c' : Nat) (hi : i + m ≤ n) (hc' : m ≤ c') : Sl w (.slice (some ⟨b, o + i, none⟩) m c') ((p.drop i).take m) := by
  have hn := h.len
  have hl : ((p.drop i).take m).length = m := by rw [List.length_take, List.length_drop]; omega
  refine ⟨_, c', by rw [hl], by rw [hl]; exact hc', fun hm => ⟨b, o + i, rfl, fun j hj => ?_⟩⟩
  rw [hl] at hj
  rw [Nat.add_assoc, byte_at h (i + j) (by omega), List.getElem_take, List.getElem_drop]
theorem Sl.grown_far {w w' : World} {b o n c cb : Nat} {p : List UInt8} (h : Sl w (.slice (some ⟨b, o, none⟩) n c) p) (hgr : w.grownBy w' (some cb)) (hne : b ≠ cb) : Sl w' (.slice (some ⟨b, o, none⟩) n c) p := by
  have hn := h.len
  have hc : n ≤ c := by obtain ⟨A, c', e, hc, _⟩ := h; injection e with _ e2 e3; omega
  subst hn
  exact ⟨_, c, rfl, hc, fun _ => ⟨b, o, rfl, fun j hj => hgr.cell (byte_at h j hj) (fun e => hne (by injection e))⟩⟩
/-- The vector so far: k numbers are laid. -/
def VecTo (p : List UInt8) (k : Nat) (C : Array Value) : Prop := C.size = 16 ∧ ∀ j, j < 16 → C[j]? = some (.int .u64 (if j < k then (beN ((p.drop (8 * j)).take 8) : Int) else 0))
theorem VecTo.step {p : List UInt8} {k : Nat} {C : Array Value} (h : VecTo p k C) (hk : k < 16) : VecTo p (k + 1) (C.setIfInBounds k (.int .u64 (beN ((p.drop (8 * k)).take 8) : Int))) := by
  refine ⟨by simpa using h.1, fun j hj => ?_⟩
  have hs := h.1
  by_cases e : j = k
  · subst e
    rw [Array.getElem?_setIfInBounds_self_of_lt (by omega), if_pos (by omega)]
  · rw [Array.getElem?_setIfInBounds_ne (by omega), h.2 j hj]
    by_cases e2 : j < k
    · rw [if_pos e2, if_pos (by omega)]
    · rw [if_neg e2, if_neg (by omega)]
theorem VecTo.done {p : List UInt8} {C : Array Value} (h : VecTo p 16 C) : Vec C (vecN p) := by
  refine ⟨?_, vecN_length p, ?_⟩
  · apply List.ext_getElem?
    intro j
    have hs := h.1
    by_cases hj : j < 16
    · rw [Array.getElem?_toList, h.2 j hj, if_pos hj]
      simp [vecN, hj]
    · rw [List.getElem?_eq_none (by simp; omega), List.getElem?_eq_none (by simp [vecN]; omega)]
  · intro n hn
    obtain ⟨i, hi, rfl⟩ := List.mem_map.1 hn
    exact beN_lt64 _ (by rw [List.length_take]; omega)

set_option maxHeartbeats 400000 in
theorem vecUse_any (b o cb : Nat) (p : List UInt8) (C0 : Array Value) (w : World) (hs : Sl w (.slice (some ⟨b, o, none⟩) 128 128) p) (hb : Blk w cb 25 C0) (h0 : VecTo p 0 C0) (hne : b ≠ cb) :
    Calls Tryd.prog 39 #[.slice (some ⟨b, o, none⟩) 128 128, .pointer (some ⟨cb, 0, none⟩)] w fun e w' =>
      e = .returned (.bool true) ∧ (∃ C, Blk w' cb 25 C ∧ Vec C (vecN p)) ∧ w.grownBy w' (some cb) := by
  go_enter Tryd.func39, Tryd.ntmps39
  go_wp2
  go_loopw [5] (fun z wr => ∃ (k : Nat) (C : Array Value), k ≤ 16 ∧ z = .int .i64 (k : Int) ∧ Blk wr cb 25 C ∧ VecTo p k C ∧ w.grownBy wr (some cb)) (fun z _ => 16 - (intOf z).toNat)
  case atStart => exact ⟨0, C0, Nat.zero_le _, rfl, hb, h0, grown_refl _ _⟩
  case round =>
    obtain ⟨k, C, hk, rfl, hB, hC, hgr⟩ := hrel
    by_cases hlt : k < 16
    · have hsz := hC.1
      have hcell : wr.cell? ⟨cb, k, none⟩ = some C[k] := by rw [hB.cell]; exact Array.getElem?_eq_getElem (by omega)
      have hfr := hB.frozen k
      have hs2 : Sl wr (.slice (some ⟨b, o + 8 * k, none⟩) 8 (128 - 8 * k)) ((p.drop (8 * k)).take 8) := (hs.grown_far hgr hne).mid (8 * k) 8 _ (by omega) (by omega)
      go_wp2_with fail
      rw [show 8 * (k + 1) - 8 * k = 8 from by omega]
      refine (number_any _ ((p.drop (8 * k)).take 8) _ hs2 (by rw [List.length_take]; omega)).mono ?_
      rintro e w' ⟨rfl, rfl⟩
      go_wp2
      go_roundw
      case rel => exact ⟨k + 1, _, by omega, by go_num, hB.set_ k _, hC.step hlt, hgr.trans (grown_setCell _ _ _ _)⟩
      case measure => simp [intOf]; omega
    · obtain rfl : k = 16 := by omega
      go_wp2
      go_ret
      exact ⟨rfl, ⟨C, hB, hC.done⟩, hgr⟩
theorem enter_vec : ∀ args w, (callFunc 39 args).run Tryd.prog w = .ok (.enter 39 args) w := fun _ _ => by kernel_rfl
/-- Sixteen noughts. -/
def zeros : List Value := List.replicate 16 (.int .u64 0)
theorem zeros_to (p : List UInt8) : VecTo p 0 zeros.toArray := ⟨rfl, fun j hj => by rw [List.getElem?_toArray, zeros, List.getElem?_replicate, if_pos hj, if_neg (by omega)]⟩
theorem zeros_vec : Vec zeros.toArray (List.replicate 16 0) := ⟨by simp [zeros], by simp, fun n hn => by rw [(List.mem_replicate.1 hn).2]; decide⟩
theorem Vec.one {cs : Array Value} {vec : List Nat} (h : Vec cs vec) : cs.all (·.oneCell') = true := by
  rw [Array.all_eq_true_iff_forall_mem]
  intro v hv
  have : v ∈ cs.toList := by simpa using hv
  rw [h.cells] at this
  obtain ⟨n, _, rfl⟩ := List.mem_map.1 this
  rfl
theorem Vec.info {cs : Array Value} {vec : List Nat} (h : Vec cs vec) : (Tryd.prog.info? 25).map (·.size) = some cs.size := by rw [info_vec, h.size]
set_option maxHeartbeats 400000 in
/-- Vector, of 128 bytes that are there. -/
theorem rvec_ok (g : Nat) (l : List UInt8) (w : World) (hr : Rd w g l) (h128 : 128 ≤ l.length) (hl : l.length ≤ 1000000) :
    Calls Tryd.prog 29 #[.pointer (some ⟨g, 0, none⟩)] w fun e w' =>
      ∃ C, e = .returned (.agg C) ∧ Vec C (vecN (l.take 128)) ∧ Rd w' g (l.drop 128) ∧ w.grownBy w' (some g) := by
  have hlt := hr.lt
  have hmf : ∀ (fn : Fn) (first cap : Array Value) (w : World), (Instr.makeFunc fn first cap).run Tryd.prog w = .ok (.func fn first cap) w := fun _ _ _ _ => rfl
  go_enter Tryd.func29, Tryd.ntmps29
  go_wp2_with fail
  change Calls _ _ _ ((w.alloc (.cells zeros.toArray 25)).alloc (.cells zeros.toArray 25)) _
  refine (take_ok _ _ g 128 l _ (fun W => Rd W g (l.drop 128) ∧ (∃ C, Blk W (w.heap.size + 1) 25 C ∧ Vec C (vecN (l.take 128))) ∧ Blk W w.heap.size 25 zeros.toArray ∧ w.grownBy W (some g)) ((hr.alloc _).alloc _) h128 hl enter_vec ?_).mono ?_
  · intro A W hp hgr
    have hb : Blk W (w.heap.size + 1) 25 zeros.toArray := by
      have := (Blk.new (w.alloc (.cells zeros.toArray 25)) 25 zeros.toArray).grown hgr (by simp; omega)
      rw [show (w.alloc (.cells zeros.toArray 25)).heap.size = w.heap.size + 1 from by simp] at this
      exact this
    have hb0 : Blk W w.heap.size 25 zeros.toArray := ((Blk.new w _ _).alloc _).grown hgr (by simp; omega)
    have hsl : Sl W (.slice A 128 128) (l.take 128) := hp.sl (by rw [List.length_take]; omega) (Nat.le_refl _)
    have hp2 := hp
    obtain ⟨_, _, _, _, hpa, _⟩ := hp
    obtain ⟨b, o, cs, rfl, hB, _⟩ := hpa (by rw [List.length_take]; omega)
    refine (vecUse_any b o (w.heap.size + 1) (l.take 128) _ W hsl hb (zeros_to _) (hB.ne_ hb (by decide))).mono ?_
    rintro e W' ⟨rfl, hC', hg'⟩
    exact ⟨rfl, (hp2.grown hb (by decide) (by decide) hg').rd, hC', hb0.grown hg' (by simp), grown_via (grown_of_alloc (grown_of_alloc hgr)) hg' (by omega)⟩
  rintro e w' ⟨rfl, hR, ⟨C, hB, hC⟩, hB0, hgr⟩
  have hth : w'.there w.heap.size 0 C.size := by rw [hC.size]; exact hB0.there
  go_wp2_with (first | (refine wpList_load_row rfl 25 _ rfl (w.heap.size + 1) rfl 25 C (0, 0) _ hB Tryd.underlying25 rfl hC.info ?_) | (refine wpList_store_mid rfl 25 _ _ rfl w.heap.size 0 C rfl rfl hth hC.info hC.one ?_))
  have hE : Blk (w'.setCells w.heap.size 0 C.toList) w.heap.size 25 C := hB0.setRow (by rw [hC.size]; rfl)
  have hgE := grown_setCells w.heap.size C.toList 0 w'
  refine bodyPost_ret (v := .agg C) (results_cell_row rfl _ _ w.heap.size 25 C (0, 0) _ rfl hE Tryd.underlying25 rfl hC.info) rfl ⟨C, rfl, hC, ?_, grown_via hgr hgE (Nat.le_refl _)⟩
  exact (hR.part.grown hB0 (by decide) (by decide) hgE).rd
/-- Vector, of too few bytes. -/
theorem rvec_short (g : Nat) (l : List UInt8) (w : World) (hr : Rd w g l) (h128 : l.length < 128) :
    Calls Tryd.prog 29 #[.pointer (some ⟨g, 0, none⟩)] w fun e w' => e = .returned (.agg zeros.toArray) ∧ Fd w' g ∧ w.grownBy w' (some g) := by
  have hlt := hr.lt
  have hmf : ∀ (fn : Fn) (first cap : Array Value) (w : World), (Instr.makeFunc fn first cap).run Tryd.prog w = .ok (.func fn first cap) w := fun _ _ _ _ => rfl
  go_enter Tryd.func29, Tryd.ntmps29
  go_wp2_with fail
  change Calls _ _ _ ((w.alloc (.cells zeros.toArray 25)).alloc (.cells zeros.toArray 25)) _
  refine (take_short _ g 128 l _ ((hr.alloc _).alloc _) (by omega) (.inr (by omega))).mono ?_
  rintro e w' ⟨rfl, hf, hgr0⟩
  have hB : Blk w' (w.heap.size + 1) 25 zeros.toArray := by
    have := (Blk.new (w.alloc (.cells zeros.toArray 25)) 25 zeros.toArray).grown hgr0 (by simp; omega)
    rw [show (w.alloc (.cells zeros.toArray 25)).heap.size = w.heap.size + 1 from by simp] at this
    exact this
  have hB0 : Blk w' w.heap.size 25 zeros.toArray := ((Blk.new w _ _).alloc _).grown hgr0 (by simp; omega)
  have hgr := grown_of_alloc (grown_of_alloc hgr0)
  obtain ⟨C, eC⟩ : ∃ C, C = zeros.toArray := ⟨_, rfl⟩
  have hC : Vec C (List.replicate 16 0) := by rw [eC]; exact zeros_vec
  rw [← eC] at hB
  have hth : w'.there w.heap.size 0 C.size := by rw [hC.size]; exact hB0.there
  have EC := Lib.hid eC
  clear eC
  go_wp2_with (first | (refine wpList_load_row rfl 25 _ rfl (w.heap.size + 1) rfl 25 C (0, 0) _ hB Tryd.underlying25 rfl hC.info ?_) | (refine wpList_store_mid rfl 25 _ _ rfl w.heap.size 0 C rfl rfl hth hC.info hC.one ?_))
  have hE : Blk (w'.setCells w.heap.size 0 C.toList) w.heap.size 25 C := hB0.setRow (by rw [hC.size]; rfl)
  have hgE := grown_setCells w.heap.size C.toList 0 w'
  exact bodyPost_ret (v := .agg C) (results_cell_row rfl _ _ w.heap.size 25 C (0, 0) _ rfl hE Tryd.underlying25 rfl hC.info) rfl ⟨by rw [EC.out], Blk.grown hf hgE (fun e => by injection e; omega), grown_via hgr hgE (Nat.le_refl _)⟩
/-- Vector, of a reader that has failed. -/
theorem rvec_failed (g : Nat) (w : World) (hr : Fd w g) :
    Calls Tryd.prog 29 #[.pointer (some ⟨g, 0, none⟩)] w fun e w' => e = .returned (.agg zeros.toArray) ∧ Fd w' g ∧ w.grownBy w' (some g) := by
  have hlt := hr.lt
  have hmf : ∀ (fn : Fn) (first cap : Array Value) (w : World), (Instr.makeFunc fn first cap).run Tryd.prog w = .ok (.func fn first cap) w := fun _ _ _ _ => rfl
  go_enter Tryd.func29, Tryd.ntmps29
  go_wp2_with fail
  change Calls _ _ _ ((w.alloc (.cells zeros.toArray 25)).alloc (.cells zeros.toArray 25)) _
  generalize hw' : (w.alloc (.cells zeros.toArray 25)).alloc (.cells zeros.toArray 25) = w'
  have hf : Fd w' g := by rw [← hw']; exact (hr.alloc _).alloc _
  have hB : Blk w' (w.heap.size + 1) 25 zeros.toArray := by
    rw [← hw']
    have := Blk.new (w.alloc (.cells zeros.toArray 25)) 25 zeros.toArray
    rw [show (w.alloc (.cells zeros.toArray 25)).heap.size = w.heap.size + 1 from by simp] at this
    exact this
  have hB0 : Blk w' w.heap.size 25 zeros.toArray := by rw [← hw']; exact (Blk.new w _ _).alloc _
  have hgr : w.grownBy w' (some g) := by rw [← hw']; exact grown_of_below (((Below.refl _ _).alloc (Nat.le_refl _) _).alloc (by simp) _) _
  clear hw'
  refine (take_failed _ g 128 _ hf).mono ?_
  rintro e w0 ⟨rfl, rfl⟩
  obtain ⟨C, eC⟩ : ∃ C, C = zeros.toArray := ⟨_, rfl⟩
  have hC : Vec C (List.replicate 16 0) := by rw [eC]; exact zeros_vec
  rw [← eC] at hB
  have hth : w'.there w.heap.size 0 C.size := by rw [hC.size]; exact hB0.there
  have EC := Lib.hid eC
  clear eC
  go_wp2_with (first | (refine wpList_load_row rfl 25 _ rfl (w.heap.size + 1) rfl 25 C (0, 0) _ hB Tryd.underlying25 rfl hC.info ?_) | (refine wpList_store_mid rfl 25 _ _ rfl w.heap.size 0 C rfl rfl hth hC.info hC.one ?_))
  have hE : Blk (w'.setCells w.heap.size 0 C.toList) w.heap.size 25 C := hB0.setRow (by rw [hC.size]; rfl)
  have hgE := grown_setCells w.heap.size C.toList 0 w'
  exact bodyPost_ret (v := .agg C) (results_cell_row rfl _ _ w.heap.size 25 C (0, 0) _ rfl hE Tryd.underlying25 rfl hC.info) rfl ⟨by rw [EC.out], Blk.grown hf hgE (fun e => by injection e; omega), grown_via hgr hgE (Nat.le_refl _)⟩
end Go.Proofs.YthlopecllhdmhaaDoor

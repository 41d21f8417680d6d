/-
  The walk of minsterlaw01.WireParts.
-/
import Derived.Test.YteneicngmglgbaaKnown
import Derived.Test.YteneicngmglgbaaMuch
import Derived.Test.YteneicngmglgbaaDot
import Derived.Test.YteneicngmglgbaaVec
import Derived.Test.YteneicngmglgbaaLawNum
import Derived.Test.YteneicngmglgbaaHeld
import Derived.Deep.RegionHeld
import Derived.Deep.DeepCutAuto
namespace Go.Proofs.Yteneicngmglgbaa
open Go.RowKit
set_option linter.unusedVariables false
set_option linter.unusedSimpArgs false

/-- Is a region's number one of a byte? -/
def inB (r : Int) : Bool := decide (0 ≤ r ∧ r ≤ 255)
theorem inB_yes {r : Int} (h : inB r = true) : 0 ≤ r ∧ r ≤ 255 := of_decide_eq_true h
theorem inB_no {r : Int} (h : inB r = false) : ¬ (0 ≤ r ∧ r ≤ 255) := of_decide_eq_false h
/-- What wire.Dot answers, whatever the region. -/
def DotRes (r : Int) (n : Nat) (w : World) (e : Ending) (w' : World) : Prop :=
  ∃ A m c k, e = .returned (.tuple #[.slice A m c, .int .i64 k]) ∧ Below w.heap.size w w' ∧ (0 ≤ r ∧ r ≤ 255 → k = 0 ∧ Sl w' (.slice A m c) (beB 1 r.toNat ++ beB 8 n)) ∧ (¬ (0 ≤ r ∧ r ≤ 255) → k = 2 ∧ m = 0)
theorem dot_both (r : Int) (n : Nat) (w : World) (hn : n < 18446744073709551616) :
    Calls Try.prog 17 #[.agg #[.int .i64 r, .int .u64 (n : Int)]] w (DotRes r n w) := by
  by_cases h : 0 ≤ r ∧ r ≤ 255
  · obtain ⟨k, rfl⟩ : ∃ k : Nat, r = (k : Int) := ⟨r.toNat, by omega⟩
    refine (dot_yes k n w (by omega) hn).mono ?_
    rintro e w' ⟨v, rfl, ho, hb⟩
    obtain ⟨A, m, c, rfl⟩ := ho.shape
    exact ⟨A, m, c, 0, rfl, hb, fun _ => ⟨rfl, by simpa using ho.sl⟩, fun hh => absurd h hh⟩
  · refine (dot_no r n w (by omega)).mono ?_
    rintro e w' ⟨rfl, hb⟩
    exact ⟨none, 0, 0, 2, rfl, hb, fun hh => absurd hh h, fun _ => ⟨rfl, rfl⟩⟩
/-- What wire.Blob answers, however long. -/
def BlobRes (l : List UInt8) (w : World) (e : Ending) (w' : World) : Prop :=
  ∃ A m c k, e = .returned (.tuple #[.slice A m c, .int .i64 k]) ∧ Below w.heap.size w w' ∧ (l.length ≤ 65535 → k = 0 ∧ Sl w' (.slice A m c) (beB 2 l.length ++ l)) ∧ (¬ l.length ≤ 65535 → k = 3 ∧ m = 0)
theorem blob_both (v : Value) (l : List UInt8) (w : World) (hs : Sl w v l) : Calls Try.prog 19 #[v] w (BlobRes l w) := by
  by_cases h : l.length ≤ 65535
  · refine (blob_yes v l w hs h).mono ?_
    rintro e w' ⟨v, rfl, ho, hb⟩
    obtain ⟨A, m, c, rfl⟩ := ho.shape
    exact ⟨A, m, c, 0, rfl, hb, fun _ => ⟨rfl, ho.sl⟩, fun hh => absurd h hh⟩
  · refine (blob_no v l w hs (by omega)).mono ?_
    rintro e w' ⟨rfl, rfl⟩
    exact ⟨none, 0, 0, 3, rfl, Below.refl _ _, fun hh => absurd hh h, fun _ => ⟨rfl, rfl⟩⟩

set_option maxHeartbeats 1000000 in
theorem wp_much (r : Int) (n : Nat) (cs : Array Value) (vec : List Nat) (v2 v3 : Value) (ls : List (List UInt8)) (l : List UInt8) (w : World) (hv : Vec cs vec) (h2 : Sls w v2 ls) (hn2 : ls.length ≤ 9223372036854775807) (h3 : Sl w v3 l)
    (hb : 9000 < ls.length + ls.flatten.length ∨ 70000 < l.length) :
    Calls Try.prog 4 #[.agg #[.int .i64 r, .int .u64 (n : Int)], .agg cs, v2, v3] w fun e w' => e = .returned (.bool true) ∧ Below w.heap.size w w' := by
  have hb0 : Below w.heap.size w ((w.alloc (.cells #[.int .i64 r, .int .u64 (n : Int)] 36)).alloc (.cells cs 38)) := ((Below.refl _ _).alloc (Nat.le_refl _) _).alloc (by simp) _
  have h2' := Lib.hid (h2.below hb0)
  obtain ⟨A, c, rfl, _, _⟩ := h3
  by_cases hm : 9000 < ls.length + ls.flatten.length
  · have hd := Lib.hid (decide_eq_true hm).symm
    go_enter Try.func4, Try.ntmps4
    go_wp2_with fail
    refine (much_any v2 ls _ true h2'.out hn2 hd.out).mono ?_
    rintro e w' ⟨rfl, rfl⟩
    go_wp2_with (go_at_call 9; refine (known_any _).mono ?_; rintro e w3 ⟨rfl, hb3⟩)
    go_ret
    exact ⟨rfl, hb0.trans (hb3.mono (by simp; omega))⟩
  · have hd := Lib.hid (decide_eq_false hm).symm
    have hl : (70000 : Int) < (l.length : Int) := by omega
    go_enter Try.func4, Try.ntmps4
    go_wp2_with fail
    refine (much_any v2 ls _ false h2'.out hn2 hd.out).mono ?_
    rintro e w' ⟨rfl, rfl⟩
    go_wp2_with (go_at_call 9; refine (known_any _).mono ?_; rintro e w3 ⟨rfl, hb3⟩)
    go_ret
    exact ⟨rfl, hb0.trans (hb3.mono (by simp; omega))⟩

/-- A block's cells, as a range. -/
theorem Blk.range {w : World} {g : Nat} {t : TypeId} {cs : List Value} (h : Blk w g t cs.toArray) : w.rangeAt g 0 cs := fun j v hv => by
  rw [Nat.zero_add, h.cell]; simpa using hv
theorem range_below {w w' : World} {B g : Nat} {cs : List Value} (h : w.rangeAt g 0 cs) (hb : Below B w w') (hg : g < B) : w'.rangeAt g 0 cs := fun j v hv => (hb.cell hg).trans (h j v hv)

set_option maxRecDepth 100000 in
set_option maxHeartbeats 4000000 in
theorem wp_few (r : Int) (n : Nat) (cs : List Value) (vec : List Nat) (v2 v3 : Value) (ls : List (List UInt8)) (l : List UInt8) (w : World) (hn : n < 18446744073709551616) (hv : Vec cs.toArray vec) (h2 : Sls w v2 ls) (hn2 : ls.length ≤ 9223372036854775807) (h3 : Sl w v3 l)
    (hm : ls.length + ls.flatten.length ≤ 9000) (hl : l.length ≤ 70000) :
    Calls Try.prog 4 #[.agg #[.int .i64 r, .int .u64 (n : Int)], .agg cs.toArray, v2, v3] w fun e w' => e = .returned (.bool true) ∧ Below w.heap.size w w' := by
  have hb0 : Below w.heap.size w ((w.alloc (.cells #[.int .i64 r, .int .u64 (n : Int)] 36)).alloc (.cells cs.toArray 38)) := ((Below.refl _ _).alloc (Nat.le_refl _) _).alloc (by simp) _
  have h2' := h2.below hb0
  have h3' := h3.below hb0
  have hD : Blk ((w.alloc (.cells #[.int .i64 r, .int .u64 (n : Int)] 36)).alloc (.cells cs.toArray 38)) w.heap.size 36 #[.int .i64 r, .int .u64 (n : Int)] := (Blk.new w _ _).alloc _
  have hV : Blk ((w.alloc (.cells #[.int .i64 r, .int .u64 (n : Int)] 36)).alloc (.cells cs.toArray 38)) (w.heap.size + 1) 38 cs.toArray := by
    have := Blk.new (w.alloc (.cells #[.int .i64 r, .int .u64 (n : Int)] 36)) 38 cs.toArray
    simpa using this
  obtain ⟨A, c, rfl, _, _⟩ := h3
  have hd := Lib.hid (decide_eq_false (show ¬ 9000 < ls.length + ls.flatten.length by omega)).symm
  have hl1 : ¬ (70000 : Int) < (l.length : Int) := by omega
  go_enter Try.func4, Try.ntmps4
  go_wp2_with fail
  generalize hw0 : ((w.alloc (.cells #[.int .i64 r, .int .u64 (n : Int)] 36)).alloc (.cells cs.toArray 38)) = w0 at *
  clear hw0
  refine (much_any v2 ls _ false h2' hn2 hd.out).mono ?_
  rintro e w' ⟨rfl, rfl⟩
  have d0 : w0.cell? ⟨w.heap.size, 0, none⟩ = some (.int .i64 r) := hD.cell 0
  have d1 : w0.cell? ⟨w.heap.size, 1, none⟩ = some (.int .u64 (n : Int)) := hD.cell 1
  go_wp2_with fail
  refine (dot_both r n w0 hn).mono ?_
  rintro e w1 ⟨A1, m1, c1, k1, rfl, hb1, hyes, hno⟩
  have Hyes := Lib.hid hyes
  have Hno := Lib.hid hno
  clear hyes hno d0 d1
  have hD1 := hD.below hb1 hD.lt
  have d0 : w1.cell? ⟨w.heap.size, 0, none⟩ = some (.int .i64 r) := hD1.cell 0
  have d1 : w1.cell? ⟨w.heap.size, 1, none⟩ = some (.int .u64 (n : Int)) := hD1.cell 1
  go_upto_region 4 with (fail)
  go_cut [33] (fun x wc => x = .bool (inB r) ∧ w1 = wc)
  case first =>
    by_cases h0 : 0 ≤ r
    · by_cases h1 : r ≤ 255
      · go_wp2_with fail
        go_meet
        exact ⟨by rw [show inB r = true from decide_eq_true ⟨h0, h1⟩], rfl⟩
      · go_wp2_with fail
        go_meet
        exact ⟨by rw [show inB r = false from decide_eq_false (by omega)], rfl⟩
    · go_wp2_with fail
      go_meet
      exact ⟨by rw [show inB r = false from decide_eq_false (by omega)], rfl⟩
  obtain ⟨rfl, rfl⟩ := hcut
  go_upto_if 33 with (fail)
  go_cut [8] (fun x wc => x = .bool false ∧ Below w0.heap.size w0 wc)
  case first =>
    cases hin : inB r with
    | true =>
      have hin' := inB_yes hin
      clear hin
      obtain ⟨rfl, hs1⟩ := Hyes.out hin'
      obtain ⟨k, rfl⟩ : ∃ k : Nat, r = (k : Int) := ⟨r.toNat, by omega⟩
      rw [Int.toNat_natCast] at hs1
      clear Hyes Hno
      obtain ⟨str, hstr⟩ : ∃ t : ByteArray, (⟨(beB 1 k ++ beB 8 n).toArray⟩ : ByteArray) = t := ⟨_, rfl⟩
      have Hstr := Lib.hid hstr
      clear hstr
      have hlt1 : w.heap.size < w1.heap.size := hD1.lt
      go_upto_region 5 with (fail)
      go_cut [44] (fun x wc => x = .bool false ∧ Below w1.heap.size w1 wc)
      case first =>
        go_region_held (fun w' => (convert 23 9 (.slice A1 m1 c1)).run Try.prog w' = .ok (.string str) w' ∧ w'.cell? ⟨w.heap.size, 0, none⟩ = some (.int .i64 (k : Int)) ∧ w'.cell? ⟨w.heap.size, 1, none⟩ = some (.int .u64 (n : Int)))
          (first | exact ⟨conv_mk (hs1.drew.below hb2) Hstr.out, (hb2.cell hlt1).trans d0, (hb2.cell hlt1).trans d1⟩ | exact ⟨conv_mk hs1.drew Hstr.out, d0, d1⟩)
          (first | (go_at_call 18; refine (refDot_any k n _ (by omega) hn).mono ?_; rintro e w2 ⟨v2', rfl, ho2, hb2⟩; obtain ⟨A2, n2, c2, rfl⟩ := ho2.shape; have k2 : (convert 23 9 (.slice A2 n2 c2)).run Try.prog w2 = .ok (.string str) w2 := conv_mk ho2.sl Hstr.out) | (go_at_call 13; refine (num_any _ _).mono ?_; rintro e w' ⟨rfl, rfl⟩))
        all_goals (go_wp2_with fail; go_meet; exact ⟨rfl, (Below.refl _ _).drew.trans hb2⟩)
      case rest =>
        obtain ⟨rfl, hb2⟩ := hcut
        go_wp2_with fail
        go_meet
        exact ⟨rfl, below_trans hb1 hb2⟩
    | false =>
      obtain ⟨rfl, rfl⟩ := Hno.out (inB_no hin)
      go_wp2_with (go_at_call 13; refine (num_any _ _).mono ?_; rintro e w' ⟨rfl, rfl⟩)
      go_meet
      exact ⟨rfl, hb1⟩
  case rest =>
    obtain ⟨rfl, hb2⟩ := hcut
    clear d0 d1 hD1 Hyes Hno hb1
    have h32 := h3'.below hb2
    go_wp2_with fail
    refine (blob_both _ l _ h32).mono ?_
    rintro e w3 ⟨A3, m3, c3, k3, rfl, hb3, hyes, hno⟩
    have Hyes := Lib.hid hyes
    have Hno := Lib.hid hno
    clear hyes hno
    have hb03 := below_trans hb2 hb3
    go_upto_region 10 with (fail)
    go_cut [60] (fun x wc => x = .bool (decide ((l.length : Int) ≤ 65535)) ∧ w3 = wc)
    case first =>
      go_wp2_with fail
      go_meet
      exact ⟨rfl, rfl⟩
    obtain ⟨rfl, rfl⟩ := hcut
    go_upto_if 60 with (fail)
    go_cut [8] (fun x wc => x = .bool false ∧ Below w0.heap.size w0 wc)
    case first =>
      by_cases hin : l.length ≤ 65535
      · have hini : (l.length : Int) ≤ 65535 := by omega
        obtain ⟨rfl, hs1⟩ := Hyes.out hin
        clear Hyes Hno
        obtain ⟨str, hstr⟩ : ∃ t : ByteArray, (⟨(beB 2 l.length ++ l).toArray⟩ : ByteArray) = t := ⟨_, rfl⟩
        have Hstr := Lib.hid hstr
        clear hstr
        have h33 := h3'.below hb03
        go_upto_region 11 with (fail)
        go_cut [71] (fun x wc => x = .bool false ∧ Below w3.heap.size w3 wc)
        case first =>
          go_region_held (fun w' => (convert 23 9 (.slice A3 m3 c3)).run Try.prog w' = .ok (.string str) w')
            (first | exact conv_mk (hs1.drew.below hb4) Hstr.out | exact conv_mk hs1.drew Hstr.out)
            (first | (go_at_call 20; refine (refBlob_any _ l _ h33.drew hin).mono ?_; rintro e w4 ⟨v4, rfl, ho4, hb4⟩; obtain ⟨A4, n4, c4, rfl⟩ := ho4.shape; have k4 : (convert 23 9 (.slice A4 n4 c4)).run Try.prog w4 = .ok (.string str) w4 := conv_mk ho4.sl Hstr.out) | (go_at_call 13; refine (num_any _ _).mono ?_; rintro e w' ⟨rfl, rfl⟩))
          all_goals (go_wp2_with fail; go_meet; exact ⟨rfl, (Below.refl _ _).drew.trans hb4⟩)
        case rest =>
          obtain ⟨rfl, hb4⟩ := hcut
          go_wp2_with fail
          go_meet
          exact ⟨rfl, below_trans hb03 hb4⟩
      · have hini : ¬ (l.length : Int) ≤ 65535 := by omega
        obtain ⟨rfl, rfl⟩ := Hno.out hin
        go_wp2_with (go_at_call 13; refine (num_any _ _).mono ?_; rintro e w' ⟨rfl, rfl⟩)
        go_meet
        exact ⟨rfl, hb03⟩
    case rest =>
      obtain ⟨rfl, hb4⟩ := hcut
      clear hb2 hb3 hb03 Hyes Hno h32
      obtain ⟨w4, rfl⟩ : ∃ x : World, x = wc := ⟨_, rfl⟩
      have h24 := h2'.below hb4
      have hV4 := hV.below hb4 hV.lt
      have hlt4 : w.heap.size + 1 < w4.heap.size := hV4.lt
      have hu : Try.prog.underlying 38 = some (.array 16 22) := Try.underlying38
      have hi : (Try.prog.info? 38).map (·.size) = some cs.length := by rw [info_vec]; have := hv.size; simp at this; rw [this]
      obtain ⟨str, hstr⟩ : ∃ t : ByteArray, (⟨(vecB vec).toArray⟩ : ByteArray) = t := ⟨_, rfl⟩
      have Hstr := Lib.hid hstr
      clear hstr
      obtain ⟨str2, hstr⟩ : ∃ t : ByteArray, (⟨ls.flatten.toArray⟩ : ByteArray) = t := ⟨_, rfl⟩
      have Hstr2 := Lib.hid hstr
      clear hstr
      have h24d : Sls w4.drew v2 ls := h24
      have hR : w4.drew.rangeAt (w.heap.size + 1) 0 cs := hV4.drew.range
      go_upto_region 15 with (fail)
      refine held_begin (by kernel_rfl) ?_
      refine' wpAnyH_take (i := 0) (oi := ⟨some 80, _, _, _, _, _⟩) rfl (by kernel_rfl) (by kernel_rfl) (by kernel_rfl) (fun _ _ _ h => h) (yieldsIf_load_mid (by rfl) _ _ rfl _ _ rfl cs _ (fun w' hk => hk.range hR) hu rfl hi) (Keeps.refl _) ?r0
      try simp only [Act.put, List.setIfInBounds_toArray, List.set_cons_zero, List.set_cons_succ]
      refine' wpAnyH_take (i := 3) (oi := ⟨some 83, _, _, _, _, _⟩) rfl (by kernel_rfl) (by kernel_rfl) (by kernel_rfl) (fun _ _ _ h => h) (yieldsIf_load_mid (by rfl) _ _ rfl _ _ rfl cs _ (fun w' hk => hk.range hR) hu rfl hi) (Keeps.refl _) ?r3
      try simp only [Act.put, List.setIfInBounds_toArray, List.set_cons_zero, List.set_cons_succ]
      refine held_one (i := 1) (by kernel_rfl) rfl (fun K hK => ?_)
      go_simp
      refine (vector_any cs.toArray vec _ hv).mono ?_
      rintro e w5 ⟨v5, rfl, ho5, hb5⟩
      obtain ⟨A5, n5, c5, rfl⟩ := ho5.shape
      have hk5 := Keeps.of_below hb5
      have q5 : ∀ w', Keeps w5 w' → (convert 23 9 (.slice A5 n5 c5)).run Try.prog w' = .ok (.string str) w' := fun w' hk => conv_mk (hk.sl ho5.sl) Hstr.out
      refine hK.out _ _ hk5 (fun _ => ?_)
      clear hK K
      refine held_next hk5 ?_
      refine' wpAnyH_take (i := 2) (oi := ⟨some 82, _, _, _, _, _⟩) (v := _) rfl (by kernel_rfl) (by kernel_rfl) (by kernel_rfl) (fun _ _ _ h => h) (Or.inl ⟨by rfl, ?y2⟩) (Keeps.refl _) ?r2
      case y2 => (intro w' hSw; go_simp; try rfl)
      try simp only [Act.put, List.setIfInBounds_toArray, List.set_cons_zero, List.set_cons_succ]
      refine held_one (i := 4) (by kernel_rfl) rfl (fun K hK => ?_)
      go_simp
      refine (refVector_any cs.toArray vec _ hv).mono ?_
      rintro e w6 ⟨v6, rfl, ho6, hb6⟩
      obtain ⟨A6, n6, c6, rfl⟩ := ho6.shape
      have hk6 := Keeps.of_below hb6
      have q6 : ∀ w', Keeps w6 w' → (convert 23 9 (.slice A6 n6 c6)).run Try.prog w' = .ok (.string str) w' := fun w' hk => conv_mk (hk.sl ho6.sl) Hstr.out
      refine hK.out _ _ hk6 (fun _ => ?_)
      clear hK K
      refine held_next hk6 ?_
      refine' wpAnyH_take (i := 5) (oi := ⟨some 85, _, _, _, _, _⟩) (v := _) rfl (by kernel_rfl) (by kernel_rfl) (by kernel_rfl) (fun _ _ _ h => h) (Or.inl ⟨by rfl, ?y5⟩) (Keeps.refl _) ?r5
      case y5 => (intro w' hSw; go_simp; try rfl)
      try simp only [Act.put, List.setIfInBounds_toArray, List.set_cons_zero, List.set_cons_succ]
      refine' wpAnyH_take (i := 6) (oi := ⟨some 86, _, _, _, _, _⟩) (v := _) rfl (by kernel_rfl) (by kernel_rfl) (by kernel_rfl) (fun _ _ _ h => h) (Or.inl ⟨by rfl, ?y6⟩) (Keeps.refl _) ?r6
      case y6 => (intro w' hSw; go_simp; try rfl)
      try simp only [Act.put, List.setIfInBounds_toArray, List.set_cons_zero, List.set_cons_succ]
      refine' wpAnyH_take (i := 7) (oi := ⟨some 87, _, _, _, _, _⟩) (v := _) rfl (by kernel_rfl) (by kernel_rfl) (by kernel_rfl) (fun _ _ _ h => h) (Or.inl ⟨by rfl, ?y7⟩) (Keeps.refl _) ?r7
      case y7 => (intro w' hSw; go_simp; try rfl)
      try simp only [Act.put, List.setIfInBounds_toArray, List.set_cons_zero, List.set_cons_succ]
      refine' wpAnyH_take (i := 8) (oi := ⟨some 88, _, _, _, _, _⟩) (v := _) rfl (by kernel_rfl) (by kernel_rfl) (by kernel_rfl) (fun _ _ _ h => h) (Or.inl ⟨by rfl, ?y8⟩) (Keeps.refl _) ?r8
      case y8 => (intro w' hSw; go_simp; try rfl)
      try simp only [Act.put, List.setIfInBounds_toArray, List.set_cons_zero, List.set_cons_succ]
      refine' wpAnyH_take (i := 11) (oi := ⟨some 91, _, _, _, _, _⟩) (v := _) rfl (by kernel_rfl) (by kernel_rfl) (by kernel_rfl) (fun _ _ _ h => h) (Or.inl ⟨by rfl, ?y11⟩) (Keeps.refl _) ?r11
      case y11 => (intro w' hSw; go_simp; try rfl)
      try simp only [Act.put, List.setIfInBounds_toArray, List.set_cons_zero, List.set_cons_succ]
      refine held_one (i := 9) (by kernel_rfl) rfl (fun K hK => ?_)
      go_simp
      refine (join_any _ ls _ ((h24d.below hb5).below hb6) (by omega) (by omega)).mono ?_
      rintro e w7 ⟨v7, rfl, ho7, hb7⟩
      obtain ⟨A7, n7, c7, rfl⟩ := ho7.shape
      have hk7 := Keeps.of_below hb7
      have q7 : ∀ w', Keeps w7 w' → (convert 23 9 (.slice A7 n7 c7)).run Try.prog w' = .ok (.string str2) w' := fun w' hk => conv_mk (hk.sl ho7.sl) Hstr2.out
      refine hK.out _ _ hk7 (fun _ => ?_)
      clear hK K
      refine held_next hk7 ?_
      refine' wpAnyH_take (i := 10) (oi := ⟨some 90, _, _, _, _, _⟩) (v := _) rfl (by kernel_rfl) (by kernel_rfl) (by kernel_rfl) (fun _ _ _ h => h) (Or.inl ⟨by rfl, ?y10⟩) (Keeps.refl _) ?r10
      case y10 => (intro w' hSw; go_simp; try rfl)
      try simp only [Act.put, List.setIfInBounds_toArray, List.set_cons_zero, List.set_cons_succ]
      refine held_one (i := 12) (by kernel_rfl) rfl (fun K hK => ?_)
      go_simp
      refine (refJoin_any _ ls _ (((h24d.below hb5).below hb6).below hb7) (by omega) (by omega)).mono ?_
      rintro e w8 ⟨v8, rfl, ho8, hb8⟩
      obtain ⟨A8, n8, c8, rfl⟩ := ho8.shape
      have hk8 := Keeps.of_below hb8
      have q8 : ∀ w', Keeps w8 w' → (convert 23 9 (.slice A8 n8 c8)).run Try.prog w' = .ok (.string str2) w' := fun w' hk => conv_mk (hk.sl ho8.sl) Hstr2.out
      refine hK.out _ _ hk8 (fun _ => ?_)
      clear hK K
      refine held_next hk8 ?_
      refine' wpAnyH_take (i := 13) (oi := ⟨some 93, _, _, _, _, _⟩) (v := _) rfl (by kernel_rfl) (by kernel_rfl) (by kernel_rfl) (fun _ _ _ h => h) (Or.inl ⟨by rfl, ?y13⟩) (Keeps.refl _) ?r13
      case y13 => (intro w' hSw; go_simp; try rfl)
      try simp only [Act.put, List.setIfInBounds_toArray, List.set_cons_zero, List.set_cons_succ]
      refine' wpAnyH_take (i := 14) (oi := ⟨some 94, _, _, _, _, _⟩) (v := _) rfl (by kernel_rfl) (by kernel_rfl) (by kernel_rfl) (fun _ _ _ h => h) (Or.inl ⟨by rfl, ?y14⟩) (Keeps.refl _) ?r14
      case y14 => (intro w' hSw; go_simp; try rfl)
      try simp only [Act.put, List.setIfInBounds_toArray, List.set_cons_zero, List.set_cons_succ]
      refine' wpAnyH_take (i := 15) (oi := ⟨some 95, _, _, _, _, _⟩) (v := _) rfl (by kernel_rfl) (by kernel_rfl) (by kernel_rfl) (fun _ _ _ h => h) (Or.inl ⟨by rfl, ?y15⟩) (Keeps.refl _) ?r15
      case y15 => (intro w' hSw; go_simp; try rfl)
      try simp only [Act.put, List.setIfInBounds_toArray, List.set_cons_zero, List.set_cons_succ]
      refine' wpAnyH_take (i := 16) (oi := ⟨some 96, _, _, _, _, _⟩) (v := _) rfl (by kernel_rfl) (by kernel_rfl) (by kernel_rfl) (fun _ _ _ h => h) (Or.inl ⟨by rfl, ?y16⟩) (Keeps.refl _) ?r16
      case y16 => (intro w' hSw; go_simp; try rfl)
      try simp only [Act.put, List.setIfInBounds_toArray, List.set_cons_zero, List.set_cons_succ]
      refine held_one (i := 17) (by kernel_rfl) rfl (fun K hK => ?_)
      go_simp
      refine (known_any _).mono ?_
      rintro e w9 ⟨rfl, hb9⟩
      have hk9 := Keeps.of_below hb9
      refine hK.out _ _ hk9 (fun _ => ?_)
      clear hK K
      refine held_next hk9 ?_
      refine' wpAnyH_take (i := 18) (oi := ⟨some 98, _, _, _, _, _⟩) (v := _) rfl (by kernel_rfl) (by kernel_rfl) (by kernel_rfl) (fun _ _ _ h => h) (Or.inl ⟨by rfl, ?y18⟩) (Keeps.refl _) ?r18
      case y18 => (intro w' hSw; go_simp; try rfl)
      try simp only [Act.put, List.setIfInBounds_toArray, List.set_cons_zero, List.set_cons_succ]
      refine' wpAnyH_take (i := 19) (oi := ⟨some 8, _, _, _, _, _⟩) (v := _) rfl (by kernel_rfl) (by kernel_rfl) (by kernel_rfl) (fun _ _ _ h => h) (Or.inl ⟨by rfl, ?y19⟩) (Keeps.refl _) ?r19
      case y19 => (intro w' hSw; go_simp; try rfl)
      try simp only [Act.put, List.setIfInBounds_toArray, List.set_cons_zero, List.set_cons_succ]
      refine wpAnyH_done (by kernel_rfl) ?_ _
      go_wp2_with fail
      go_ret
      have b9 : Below w4.heap.size w4 w9 := ((((Below.refl _ _).drew.trans hb5).trans (hb6.mono hb5.size)).trans (hb7.mono (Nat.le_trans hb5.size hb6.size))).trans ((hb8.mono (Nat.le_trans (Nat.le_trans hb5.size hb6.size) hb7.size)).trans (hb9.mono (Nat.le_trans (Nat.le_trans (Nat.le_trans hb5.size hb6.size) hb7.size) hb8.size)))
      exact ⟨rfl, (hb0.trans (hb4.mono hb0.size)).trans (b9.mono (Nat.le_trans hb0.size hb4.size))⟩
end Go.Proofs.Yteneicngmglgbaa

/-
  The walk of minsterlaw01.WireCuts.
-/
import Derived.Test.YteneicngmglgbaaKnown
import Derived.Test.YteneicngmglgbaaDot
import Derived.Test.YteneicngmglgbaaCutRead
import Derived.Test.YteneicngmglgbaaLawParts
import Derived.Deep.DeepCutAuto
namespace Go.Proofs.Yteneicngmglgbaa
open Go.RowKit
set_option linter.unusedVariables false
set_option linter.unusedSimpArgs false

theorem allB_eq (l : List UInt8) (k n : Nat) (vec : List Nat) : allB l k n vec = ((beB 2 l.length ++ l) ++ (beB 1 k ++ beB 8 n)) ++ vecB vec := by simp [allB]
/-- A whole array loaded, where the operation's guard says yes. -/
theorem wpList_load_row_g {P : Program} {ops : Array Oper} {rest : List Oper} {o : Oper} {a : Act} {w : World} {Q : Exit → Act → World → Prop} (hw : Region.wanted o (yielded ops a.tmps) = true) (ty : TypeId) (x : Operand) (ho : o.op = .load ty x)
    (g : Nat) (hx : a.eval x = .pointer (some ⟨g, 0, none⟩)) (t : TypeId) (cs : Array Value) (fr : Nat × Nat) (d : TypeDesc) (hg : w.heap[g]? = some (.cells cs t fr))
    (hu : P.underlying ty = some d) (hd : (match d with | .struct _ | .array _ _ => true | _ => false) = true) (hi : (P.info? ty).map (·.size) = some cs.size)
    (h : wpList P ops Q rest (a.put o.dst (.agg cs)) w) : wpList P ops Q (o :: rest) a w :=
  wpList_step fun K hK => by rw [if_pos hw]; exact wp_load_row ty x ho g hx t cs fr d hg hu hd hi (hK _ _ h)
/-- The beginning of a slice. -/
theorem Sl.pre {w : World} {A : Option Addr} {m c : Nat} {L : List UInt8} (h : Sl w (.slice A m c) L) (a : Nat) (ha : a ≤ m) : Sl w (.slice A a c) (L.take a) := by
  obtain ⟨A', c', e, hc, hx⟩ := h
  injection e with e1 e2 e3
  subst e1 e3
  have hl : (L.take a).length = a := by rw [List.length_take]; omega
  refine ⟨A, c, by rw [hl], by omega, fun hn => ?_⟩
  rw [hl] at hn
  obtain ⟨b, o, e, hy⟩ := hx (by omega)
  exact ⟨b, o, e, fun j hj => by rw [hl] at hj; rw [hy j (by omega), List.getElem_take]⟩
theorem Sl.cap {w : World} {A : Option Addr} {m c : Nat} {L : List UInt8} (h : Sl w (.slice A m c) L) : m ≤ c := by
  obtain ⟨A', c', e, hc, hx⟩ := h
  injection e with e1 e2 e3
  omega
/-- A slice of bytes, and nothing old has turned. -/
def CutRel (w : World) (L : List UInt8) (x : Value) (wc : World) : Prop := ∃ A m c, x = .slice A m c ∧ Sl wc (.slice A m c) L ∧ Below w.heap.size w wc

set_option maxRecDepth 100000 in
set_option maxHeartbeats 1000000 in
theorem wc_out (v0 : Value) (l : List UInt8) (r : Int) (n : Nat) (cs : Array Value) (at_ : Int) (w : World) (h0 : Sl w v0 l) (hb : 9000 < l.length ∨ r < 0 ∨ 255 < r) :
    Calls Try.prog 8 #[v0, .agg #[.int .i64 r, .int .u64 (n : Int)], .agg cs, .int .i64 at_] w fun e w' => e = .returned (.bool true) ∧ Below w.heap.size w w' := by
  have hb0 : Below w.heap.size w ((w.alloc (.cells #[.int .i64 r, .int .u64 (n : Int)] 36)).alloc (.cells cs 38)) := ((Below.refl _ _).alloc (Nat.le_refl _) _).alloc (by simp) _
  obtain ⟨A, c, rfl, _, _⟩ := h0
  by_cases h1 : 9000 < l.length
  · have h1i : (9000 : Int) < (l.length : Int) := by omega
    clear hb
    go_enter Try.func8, Try.ntmps8
    go_wp2_with (go_at_call 9; refine (known_any _).mono ?_; rintro e w3 ⟨rfl, hb3⟩)
    go_ret
    exact ⟨rfl, hb0.trans (hb3.mono (by simp; omega))⟩
  · have h1i : ¬ (9000 : Int) < (l.length : Int) := by omega
    by_cases h2 : r < 0
    · clear hb
      go_enter Try.func8, Try.ntmps8
      go_wp2_with (go_at_call 9; refine (known_any _).mono ?_; rintro e w3 ⟨rfl, hb3⟩)
      go_ret
      exact ⟨rfl, hb0.trans (hb3.mono (by simp; omega))⟩
    · have h3 : 255 < r := by omega
      clear hb
      go_enter Try.func8, Try.ntmps8
      go_wp2_with (go_at_call 9; refine (known_any _).mono ?_; rintro e w3 ⟨rfl, hb3⟩)
      go_ret
      exact ⟨rfl, hb0.trans (hb3.mono (by simp; omega))⟩

set_option maxRecDepth 100000 in
set_option maxHeartbeats 4000000 in
theorem wc_in (v0 : Value) (l : List UInt8) (k n : Nat) (cs : List Value) (vec : List Nat) (at_ : Int) (w : World) (h0 : Sl w v0 l) (hl : l.length ≤ 9000) (hk : k ≤ 255) (hn : n < 18446744073709551616) (hv : Vec cs.toArray vec)
    (hat : -9223372036854775808 ≤ at_ ∧ at_ ≤ 9223372036854775807) :
    Calls Try.prog 8 #[v0, .agg #[.int .i64 (k : Int), .int .u64 (n : Int)], .agg cs.toArray, .int .i64 at_] w fun e w' => e = .returned (.bool true) ∧ Below w.heap.size w w' := by
  obtain ⟨i0, hi0, hz0, hz1, hz2⟩ := info_parts info_u8
  have hb0 : Below w.heap.size w ((w.alloc (.cells #[.int .i64 (k : Int), .int .u64 (n : Int)] 36)).alloc (.cells cs.toArray 38)) := ((Below.refl _ _).alloc (Nat.le_refl _) _).alloc (by simp) _
  have h0' := h0.below hb0
  have hD : Blk ((w.alloc (.cells #[.int .i64 (k : Int), .int .u64 (n : Int)] 36)).alloc (.cells cs.toArray 38)) w.heap.size 36 #[.int .i64 (k : Int), .int .u64 (n : Int)] := (Blk.new w _ _).alloc _
  have hV : Blk ((w.alloc (.cells #[.int .i64 (k : Int), .int .u64 (n : Int)] 36)).alloc (.cells cs.toArray 38)) (w.heap.size + 1) 38 cs.toArray := by
    have := Blk.new (w.alloc (.cells #[.int .i64 (k : Int), .int .u64 (n : Int)] 36)) 38 cs.toArray
    simpa using this
  have hsl := h0
  obtain ⟨A, c, rfl, _, _⟩ := h0
  have hl1 : ¬ (9000 : Int) < (l.length : Int) := by omega
  have hu : Try.prog.underlying 38 = some (.array 16 22) := Try.underlying38
  have hi : (Try.prog.info? 38).map (·.size) = some cs.length := by rw [info_vec]; have := hv.size; simp at this; rw [this]
  go_enter Try.func8, Try.ntmps8
  go_upto_region 3 with (fail)
  generalize hw0 : ((w.alloc (.cells #[.int .i64 (k : Int), .int .u64 (n : Int)] 36)).alloc (.cells cs.toArray 38)) = w0 at *
  clear hw0
  go_cut [9] (fun x wc => CutRel w0 (allB l k n vec) x wc)
  case first =>
    have d0 : w0.drew.cell? ⟨w.heap.size, 0, none⟩ = some (.int .i64 (k : Int)) := hD.cell 0
    have d1 : w0.drew.cell? ⟨w.heap.size, 1, none⟩ = some (.int .u64 (n : Int)) := hD.cell 1
    have e0 : ∀ w', Keeps w0.drew w' → w'.cell? ⟨w.heap.size, 0, none⟩ = some (.int .i64 (k : Int)) := fun w' h => h _ _ d0
    have e1 : ∀ w', Keeps w0.drew w' → w'.cell? ⟨w.heap.size, 1, none⟩ = some (.int .u64 (n : Int)) := fun w' h => h _ _ d1
    have hR : w0.drew.rangeAt (w.heap.size + 1) 0 cs := hV.drew.range
    refine held_begin (by kernel_rfl) ?_
    refine' wpAnyH_take (i := 0) (oi := ⟨some 31, _, _, _, _, _⟩) (v := _) rfl (by kernel_rfl) (by kernel_rfl) (by kernel_rfl) (fun _ _ _ h => h) (Or.inl ⟨by rfl, ?y0⟩) (Keeps.refl _) ?r0
    case y0 => (intro w' hSw; go_simp; try rfl)
    try simp only [Act.put, List.setIfInBounds_toArray, List.set_cons_zero, List.set_cons_succ]
    refine' wpAnyH_take (i := 2) (oi := ⟨some 33, _, _, _, _, _⟩) (v := _) rfl (by kernel_rfl) (by kernel_rfl) (by kernel_rfl) (fun _ _ _ h => h) (Or.inl ⟨by rfl, ?y2⟩) (Keeps.refl _) ?r2
    case y2 => (intro w' hSw; have g0 := e0 w' hSw; have g1 := e1 w' hSw; go_simp; try rfl)
    try simp only [Act.put, List.setIfInBounds_toArray, List.set_cons_zero, List.set_cons_succ]
    refine' wpAnyH_take (i := 5) (oi := ⟨some 36, _, _, _, _, _⟩) rfl (by kernel_rfl) (by kernel_rfl) (by kernel_rfl) (fun _ _ _ h => h) (yieldsIf_load_mid (by rfl) _ _ rfl _ _ rfl cs _ (fun w' hk => hk.range hR) hu rfl hi) (Keeps.refl _) ?r5
    try simp only [Act.put, List.setIfInBounds_toArray, List.set_cons_zero, List.set_cons_succ]
    clear d0 d1 e0 e1
    refine held_one (i := 1) (by kernel_rfl) rfl (fun K hK => ?_)
    go_simp
    refine (refBlob_any _ l _ h0'.drew (by omega)).mono ?_
    rintro e w1 ⟨v1, rfl, ho1, hb1⟩
    refine hK.out _ _ (Keeps.of_below hb1) (fun _ => ?_)
    clear hK K
    refine held_one (i := 3) (by kernel_rfl) rfl (fun K hK => ?_)
    go_simp
    refine (refDot_any k n _ hk hn).mono ?_
    rintro e w2 ⟨v2, rfl, ho2, hb2⟩
    have b02 : Below w0.drew.heap.size w0.drew w2 := below_trans hb1 hb2
    refine hK.out _ _ (Keeps.of_below b02) (fun _ => ?_)
    clear hK K
    have hlen4 : (beB 2 l.length ++ l).length + (beB 1 k ++ beB 8 n).length ≤ 1000000000 := by simp only [List.length_append, beB_length]; omega
    have hlen7 : ((beB 2 l.length ++ l) ++ (beB 1 k ++ beB 8 n)).length + (vecB vec).length ≤ 1000000000 := by simp only [List.length_append, beB_length, vecB_length, hv.len]; omega
    have Hlen4 := Lib.hid hlen4
    have Hlen7 := Lib.hid hlen7
    clear hlen4 hlen7
    have ho12 := ho1.below hb2 (Nat.le_refl _)
    refine held_one (i := 4) (by kernel_rfl) rfl (fun K hK => ?_)
    · refine step_append_bytes2 _ rfl _ _ 23 rfl w0.drew.heap.size 5 i0 Try.underlying23 hi0 hz0 hz1 hz2 v1 (beB 2 l.length ++ l) (by rfl) ho12 v2 (beB 1 k ++ beB 8 n) (by rfl) ho2.sl Hlen4.out b02.size ?_
      intro v3 w3 ho3 hg3
      have b03 : Below w0.drew.heap.size w0.drew w3 := b02.grown hg3 b02.size (fun g hg => (ho12.lt g hg).1)
      refine hK.out _ _ (Keeps.of_below b03) (fun _ => ?_)
      clear hK K
      try simp only [Act.put, List.setIfInBounds_toArray, List.set_cons_zero, List.set_cons_succ]
      refine held_one (i := 6) (by kernel_rfl) rfl (fun K hK => ?_)
      go_simp
      refine (refVector_any cs.toArray vec _ hv).mono ?_
      rintro e w4 ⟨v4, rfl, ho4, hb4⟩
      have b04 := below_trans b03 hb4
      refine hK.out _ _ (Keeps.of_below b04) (fun _ => ?_)
      clear hK K
      have ho34 := ho3.below hb4 (Nat.le_refl _)
      refine held_one (i := 7) (by kernel_rfl) rfl (fun K hK => ?_)
      refine step_append_bytes2 _ rfl _ _ 23 rfl w0.drew.heap.size 5 i0 Try.underlying23 hi0 hz0 hz1 hz2 v3 ((beB 2 l.length ++ l) ++ (beB 1 k ++ beB 8 n)) (by rfl) ho34 v4 (vecB vec) (by rfl) ho4.sl Hlen7.out b04.size ?_
      intro v5 w5 ho5 hg5
      have b05 : Below w0.drew.heap.size w0.drew w5 := b04.grown hg5 b04.size (fun g hg => (ho34.lt g hg).1)
      obtain ⟨A5, n5, c5, rfl⟩ := ho5.shape
      refine hK.out _ _ (Keeps.of_below b05) (fun _ => ?_)
      clear hK K
      try simp only [Act.put, List.setIfInBounds_toArray, List.set_cons_zero, List.set_cons_succ]
      refine' wpAnyH_take (i := 8) (oi := ⟨some 9, _, _, _, _, _⟩) (v := _) rfl (by kernel_rfl) (by kernel_rfl) (by kernel_rfl) (fun _ _ _ h => h) (Or.inl ⟨by rfl, ?y8a⟩) (Keeps.of_below b05) ?r8a
      case y8a => (intro w' hSw; go_simp; try rfl)
      try simp only [Act.put, List.setIfInBounds_toArray, List.set_cons_zero, List.set_cons_succ]
      refine wpAnyH_done (by kernel_rfl) ?_ _
      go_wp2_with fail
      go_meet
      exact ⟨A5, n5, c5, rfl, by rw [allB_eq]; exact ho5.sl, (Below.refl _ _).drew.trans b05⟩
  case rest =>
    obtain ⟨A5, n5, c5, rfl, hs5, hb5⟩ := hcut
    obtain ⟨w5, rfl⟩ : ∃ x : World, x = wc := ⟨_, rfl⟩
    have hL := allB_length l k n vec hv.len
    by_cases hin : at_ < 0 ∨ ((l.length + 139 : Nat) : Int) < at_
    · have hn5 : n5 = l.length + 139 := by rw [hs5.len, hL]
      subst hn5
      clear hL
      by_cases hneg : at_ < 0
      · clear hin
        go_wp2_with (go_at_call 9; refine (known_any _).mono ?_; rintro e w6 ⟨rfl, hb6⟩)
        go_ret
        exact ⟨rfl, (hb0.trans (hb5.mono hb0.size)).trans (hb6.mono (Nat.le_trans hb0.size hb5.size))⟩
      · have hbig : ((l.length + 139 : Nat) : Int) < at_ := by omega
        clear hin
        go_wp2_with (go_at_call 9; refine (known_any _).mono ?_; rintro e w6 ⟨rfl, hb6⟩)
        go_ret
        exact ⟨rfl, (hb0.trans (hb5.mono hb0.size)).trans (hb6.mono (Nat.le_trans hb0.size hb5.size))⟩
    · obtain ⟨a, rfl⟩ : ∃ a : Nat, at_ = (a : Int) := ⟨at_.toNat, by omega⟩
      have ha : a ≤ l.length + 139 := by omega
      have hn5 : n5 = l.length + 139 := by rw [hs5.len, hL]
      subst hn5
      clear hin
      have hac : a ≤ c5 := Nat.le_trans ha hs5.cap
      have hpre := hs5.pre a ha
      have hPl : ((allB l k n vec).take a).length ≤ 1000000 := by rw [List.length_take]; omega
      clear hs5 hL
      have hD5 := hD.below hb5 hD.lt
      have hV5 := hV.below hb5 hV.lt
      have h05 := h0'.below hb5
      go_wp2_with fail
      refine (read_any _ _ _ hpre hPl).mono ?_
      rintro e w6 ⟨g, rfl, hg, hr6, hb6⟩
      have hD6 := hD5.below hb6 hD5.lt
      have hV6 := hV5.below hb6 hV5.lt
      have h06 := h05.below hb6
      have b6 : Below w.heap.size w w6 := (hb0.trans (hb5.mono hb0.size)).trans (hb6.mono (Nat.le_trans hb0.size hb5.size))
      have hz5 : w.heap.size ≤ w5.heap.size := Nat.le_trans hb0.size hb5.size
      have hDg : w.heap.size ≠ g := by have := hD5.lt; omega
      have hVg : w.heap.size + 1 ≠ g := by have := hV5.lt; omega
      have h6g : Below w5.heap.size w5 w6 := hb6
      clear hpre hPl
      have hgl := hr6.lt
      go_wp2_with fail
      have hfF : True := trivial
      by_cases H1 : 2 + l.length ≤ a
      · have G1 : (2 + (l.length : Int)) ≤ (a : Int) := by omega
        by_cases H2 : 11 + l.length ≤ a
        · have G2 : (11 + (l.length : Int)) ≤ (a : Int) := by omega
          by_cases H3 : a = l.length + 139
          · have G3 : ((a : Int) == (l.length : Int) + 139) = true := beq_iff_eq.2 (by omega)
            have HH3 := Lib.hid H3
            clear H3
            refine (blob_cut g l k n a vec w6 hl hv.len ha hr6).mono ?_
            rintro e w7 ⟨A7, m7, c7, rfl, hm7, hx7, hR7, hg7⟩
            simp only [if_pos H1] at hm7 hx7
            subst hm7
            have Hx7 := Lib.hid hx7
            have HR7 := Lib.hid hR7
            clear hx7 hR7
            go_wp2_with fail
            refine (dot_cut g l k n a vec w7 hl hv.len hk hn HR7.out).mono ?_
            rintro e w8 ⟨rfl, hR8, hg8⟩
            have HR8 := Lib.hid hR8
            clear hR8
            simp only [if_pos H2]
            go_wp2_with fail
            refine (vec_cut g l a cs.toArray vec _ hl hv ha (HR8.out.below ((Below.refl _ _).alloc (Nat.le_refl _) _))).mono ?_
            rintro e w9 ⟨rfl, hR9, hg9⟩
            simp only [if_pos HH3.out] at hR9 ⊢
            have g78 := hg7.trans hg8
            have g89 : w8.grownBy w9 (some g) := grown_of_alloc hg9
            have g69 := g78.trans g89
            have g79 := hg8.trans g89
            have hz8 : g < w8.heap.size := Nat.lt_of_lt_of_le hgl g78.size
            have hY9 : Blk w9 w8.heap.size 36 #[.int .i64 (k : Int), .int .u64 (n : Int)] := (Blk.new w8 _ _).grown hg9 (fun e => by injection e; omega)
            have hz9 : w8.heap.size < w9.heap.size := hY9.lt
            have hD9 := hD6.grown g69 (fun e => hDg (by injection e))
            have hV9 := hV6.grown g69 (fun e => hVg (by injection e))
            have b9 : Below w.heap.size w w9 := Below.only b6 g69 (by omega) b6.size
            have h09 := hsl.below b9
            obtain ⟨C1, hC1e⟩ : ∃ x : Array Value, x = cs.toArray := ⟨_, rfl⟩
            have hC1 : Vec C1 vec := by rw [hC1e]; exact hv
            rw [← hC1e]
            have HC1e := Lib.hid hC1e
            clear hC1e
            obtain ⟨wF, hF⟩ : ∃ x : World, x = (w9.alloc (.cells #[.int .u64 0, .int .u64 0, .int .u64 0, .int .u64 0, .int .u64 0, .int .u64 0, .int .u64 0, .int .u64 0, .int .u64 0, .int .u64 0, .int .u64 0, .int .u64 0, .int .u64 0, .int .u64 0, .int .u64 0, .int .u64 0] 38)).setCells w9.heap.size 0 C1.toList := ⟨_, rfl⟩
            have hth : (w9.alloc (.cells #[.int .u64 0, .int .u64 0, .int .u64 0, .int .u64 0, .int .u64 0, .int .u64 0, .int .u64 0, .int .u64 0, .int .u64 0, .int .u64 0, .int .u64 0, .int .u64 0, .int .u64 0, .int .u64 0, .int .u64 0, .int .u64 0] 38)).there w9.heap.size 0 C1.size := by rw [hC1.size]; exact (Blk.new w9 _ _).there
            have hZ : Blk wF w9.heap.size 38 C1 := by rw [hF]; exact (Blk.new w9 _ _).setRow (by rw [hC1.size]; rfl)
            have bF : Below w9.heap.size w9 wF := by rw [hF]; exact ((Below.refl _ _).alloc (Nat.le_refl _) _).grown (grown_setCells _ _ _ _) (by simp) (fun q hq => by injection hq with hq; omega)
            have HF := Lib.hid hF
            clear hF
            have hYF := hY9.below bF hY9.lt
            have hDF := hD9.below bF hD9.lt
            have hVF := hV9.below bF hV9.lt
            have y0 : wF.cell? ⟨w8.heap.size, 0, none⟩ = some (.int .i64 (k : Int)) := hYF.cell 0
            have y1 : wF.cell? ⟨w8.heap.size, 1, none⟩ = some (.int .u64 (n : Int)) := hYF.cell 1
            have d0 : wF.cell? ⟨w.heap.size, 0, none⟩ = some (.int .i64 (k : Int)) := hDF.cell 0
            have d1 : wF.cell? ⟨w.heap.size, 1, none⟩ = some (.int .u64 (n : Int)) := hDF.cell 1
            obtain ⟨str, hstr⟩ : ∃ t : ByteArray, (⟨l.toArray⟩ : ByteArray) = t := ⟨_, rfl⟩
            have q0 := conv_mk (h09.below bF) hstr
            have q1 := conv_mk ((Hx7.out _ g79).below bF) hstr
            clear hstr
            have hRF := hR9.below bF
            have sv : ∀ w, (Op.equalIn 10000 38 (.agg C1) (.agg cs.toArray)).run Try.prog w = .ok true w := fun w => by have := vec_self hC1 w; rw [HC1e.out] at this ⊢; exact this
            go_wp2_with (first | (refine wpList_store_mid rfl 38 _ _ rfl w9.heap.size 0 C1 rfl rfl hth hC1.info hC1.one ?_; rw [← HF.out]) | (refine wpList_load_row_g (by rfl) 38 (.tmp 15) rfl w9.heap.size rfl 38 C1 (0, 0) _ hZ Try.underlying38 rfl hC1.info ?_) | (refine wpList_load_row_g (by rfl) 38 (.tmp 6) rfl (w.heap.size + 1) rfl 38 cs.toArray (0, 0) _ hVF Try.underlying38 rfl hv.info ?_))
            go_wp2_with (first | (go_at_call 33; refine (failed_no g [] _ hRF).mono ?_; rintro e w' ⟨rfl, rfl⟩) | (go_at_call 34; refine (end_no g [] _ hRF).mono ?_; rintro e w' ⟨rfl, rfl⟩) | (go_at_call 13; refine (num_any _ _).mono ?_; rintro e w' ⟨rfl, rfl⟩) | (go_at_call 9; refine (known_any _).mono ?_; rintro e wK ⟨rfl, hbK⟩))
            go_ret
            exact ⟨rfl, (b9.trans (bF.mono b9.size)).trans (hbK.mono (Nat.le_trans b9.size bF.size))⟩
          · have G3 : ((a : Int) == (l.length : Int) + 139) = false := beq_eq_false_iff_ne.2 (by omega)
            refine (blob_cut g l k n a vec w6 hl hv.len ha hr6).mono ?_
            rintro e w7 ⟨A7, m7, c7, rfl, hm7, hx7, hR7, hg7⟩
            simp only [if_pos H1] at hm7 hx7
            subst hm7
            have Hx7 := Lib.hid hx7
            have HR7 := Lib.hid hR7
            clear hx7 hR7
            go_wp2_with fail
            refine (dot_cut g l k n a vec w7 hl hv.len hk hn HR7.out).mono ?_
            rintro e w8 ⟨rfl, hR8, hg8⟩
            have HR8 := Lib.hid hR8
            clear hR8
            simp only [if_pos H2]
            go_wp2_with fail
            refine (vec_cut g l a cs.toArray vec _ hl hv ha (HR8.out.below ((Below.refl _ _).alloc (Nat.le_refl _) _))).mono ?_
            rintro e w9 ⟨rfl, hR9, hg9⟩
            simp only [if_neg H3] at hR9 ⊢
            have g78 := hg7.trans hg8
            have g89 : w8.grownBy w9 (some g) := grown_of_alloc hg9
            have g69 := g78.trans g89
            have g79 := hg8.trans g89
            have hz8 : g < w8.heap.size := Nat.lt_of_lt_of_le hgl g78.size
            have hY9 : Blk w9 w8.heap.size 36 #[.int .i64 (k : Int), .int .u64 (n : Int)] := (Blk.new w8 _ _).grown hg9 (fun e => by injection e; omega)
            have hz9 : w8.heap.size < w9.heap.size := hY9.lt
            have hD9 := hD6.grown g69 (fun e => hDg (by injection e))
            have hV9 := hV6.grown g69 (fun e => hVg (by injection e))
            have b9 : Below w.heap.size w w9 := Below.only b6 g69 (by omega) b6.size
            have h09 := hsl.below b9
            obtain ⟨C1, hC1e⟩ : ∃ x : Array Value, x = zeros.toArray := ⟨_, rfl⟩
            have hC1 : Vec C1 (List.replicate 16 0) := by rw [hC1e]; exact zeros_vec
            rw [← hC1e]
            have HC1e := Lib.hid hC1e
            clear hC1e
            obtain ⟨wF, hF⟩ : ∃ x : World, x = (w9.alloc (.cells #[.int .u64 0, .int .u64 0, .int .u64 0, .int .u64 0, .int .u64 0, .int .u64 0, .int .u64 0, .int .u64 0, .int .u64 0, .int .u64 0, .int .u64 0, .int .u64 0, .int .u64 0, .int .u64 0, .int .u64 0, .int .u64 0] 38)).setCells w9.heap.size 0 C1.toList := ⟨_, rfl⟩
            have hth : (w9.alloc (.cells #[.int .u64 0, .int .u64 0, .int .u64 0, .int .u64 0, .int .u64 0, .int .u64 0, .int .u64 0, .int .u64 0, .int .u64 0, .int .u64 0, .int .u64 0, .int .u64 0, .int .u64 0, .int .u64 0, .int .u64 0, .int .u64 0] 38)).there w9.heap.size 0 C1.size := by rw [hC1.size]; exact (Blk.new w9 _ _).there
            have hZ : Blk wF w9.heap.size 38 C1 := by rw [hF]; exact (Blk.new w9 _ _).setRow (by rw [hC1.size]; rfl)
            have bF : Below w9.heap.size w9 wF := by rw [hF]; exact ((Below.refl _ _).alloc (Nat.le_refl _) _).grown (grown_setCells _ _ _ _) (by simp) (fun q hq => by injection hq with hq; omega)
            have HF := Lib.hid hF
            clear hF
            have hYF := hY9.below bF hY9.lt
            have hDF := hD9.below bF hD9.lt
            have hVF := hV9.below bF hV9.lt
            have y0 : wF.cell? ⟨w8.heap.size, 0, none⟩ = some (.int .i64 (k : Int)) := hYF.cell 0
            have y1 : wF.cell? ⟨w8.heap.size, 1, none⟩ = some (.int .u64 (n : Int)) := hYF.cell 1
            have d0 : wF.cell? ⟨w.heap.size, 0, none⟩ = some (.int .i64 (k : Int)) := hDF.cell 0
            have d1 : wF.cell? ⟨w.heap.size, 1, none⟩ = some (.int .u64 (n : Int)) := hDF.cell 1
            obtain ⟨str, hstr⟩ : ∃ t : ByteArray, (⟨l.toArray⟩ : ByteArray) = t := ⟨_, rfl⟩
            have q0 := conv_mk (h09.below bF) hstr
            have q1 := conv_mk ((Hx7.out _ g79).below bF) hstr
            clear hstr
            have hRF := hR9.below bF
            have sv : ∀ w, (Op.equalIn 10000 38 (.agg C1) (.agg #[.int .u64 0, .int .u64 0, .int .u64 0, .int .u64 0, .int .u64 0, .int .u64 0, .int .u64 0, .int .u64 0, .int .u64 0, .int .u64 0, .int .u64 0, .int .u64 0, .int .u64 0, .int .u64 0, .int .u64 0, .int .u64 0])).run Try.prog w = .ok true w := fun w => by have := vec_self hC1 w; rw [HC1e.out] at this ⊢; exact this
            go_wp2_with (first | (refine wpList_store_mid rfl 38 _ _ rfl w9.heap.size 0 C1 rfl rfl hth hC1.info hC1.one ?_; rw [← HF.out]) | (refine wpList_load_row_g (by rfl) 38 (.tmp 15) rfl w9.heap.size rfl 38 C1 (0, 0) _ hZ Try.underlying38 rfl hC1.info ?_) | (refine wpList_load_row_g (by rfl) 38 (.tmp 6) rfl (w.heap.size + 1) rfl 38 cs.toArray (0, 0) _ hVF Try.underlying38 rfl hv.info ?_))
            go_wp2_with (first | (go_at_call 33; refine (failed_yes g _ hRF).mono ?_; rintro e w' ⟨rfl, rfl⟩) | (go_at_call 34; refine (end_yes g _ hRF).mono ?_; rintro e w' ⟨rfl, rfl⟩) | (go_at_call 13; refine (num_any _ _).mono ?_; rintro e w' ⟨rfl, rfl⟩) | (go_at_call 9; refine (known_any _).mono ?_; rintro e wK ⟨rfl, hbK⟩))
            go_ret
            exact ⟨rfl, (b9.trans (bF.mono b9.size)).trans (hbK.mono (Nat.le_trans b9.size bF.size))⟩
        · have G2 : ¬ (11 + (l.length : Int)) ≤ (a : Int) := by omega
          have H3 : ¬ a = l.length + 139 := by omega
          have G3 : ((a : Int) == (l.length : Int) + 139) = false := beq_eq_false_iff_ne.2 (by omega)
          refine (blob_cut g l k n a vec w6 hl hv.len ha hr6).mono ?_
          rintro e w7 ⟨A7, m7, c7, rfl, hm7, hx7, hR7, hg7⟩
          simp only [if_pos H1] at hm7 hx7
          subst hm7
          have Hx7 := Lib.hid hx7
          have HR7 := Lib.hid hR7
          clear hx7 hR7
          go_wp2_with fail
          refine (dot_cut g l k n a vec w7 hl hv.len hk hn HR7.out).mono ?_
          rintro e w8 ⟨rfl, hR8, hg8⟩
          have HR8 := Lib.hid hR8
          clear hR8
          simp only [if_neg H2]
          go_wp2_with fail
          refine (vec_cut g l a cs.toArray vec _ hl hv ha (HR8.out.below ((Below.refl _ _).alloc (Nat.le_refl _) _))).mono ?_
          rintro e w9 ⟨rfl, hR9, hg9⟩
          simp only [if_neg H3] at hR9 ⊢
          have g78 := hg7.trans hg8
          have g89 : w8.grownBy w9 (some g) := grown_of_alloc hg9
          have g69 := g78.trans g89
          have g79 := hg8.trans g89
          have hz8 : g < w8.heap.size := Nat.lt_of_lt_of_le hgl g78.size
          have hY9 : Blk w9 w8.heap.size 36 #[.int .i64 0, .int .u64 0] := (Blk.new w8 _ _).grown hg9 (fun e => by injection e; omega)
          have hz9 : w8.heap.size < w9.heap.size := hY9.lt
          have hD9 := hD6.grown g69 (fun e => hDg (by injection e))
          have hV9 := hV6.grown g69 (fun e => hVg (by injection e))
          have b9 : Below w.heap.size w w9 := Below.only b6 g69 (by omega) b6.size
          have h09 := hsl.below b9
          obtain ⟨C1, hC1e⟩ : ∃ x : Array Value, x = zeros.toArray := ⟨_, rfl⟩
          have hC1 : Vec C1 (List.replicate 16 0) := by rw [hC1e]; exact zeros_vec
          rw [← hC1e]
          have HC1e := Lib.hid hC1e
          clear hC1e
          obtain ⟨wF, hF⟩ : ∃ x : World, x = (w9.alloc (.cells #[.int .u64 0, .int .u64 0, .int .u64 0, .int .u64 0, .int .u64 0, .int .u64 0, .int .u64 0, .int .u64 0, .int .u64 0, .int .u64 0, .int .u64 0, .int .u64 0, .int .u64 0, .int .u64 0, .int .u64 0, .int .u64 0] 38)).setCells w9.heap.size 0 C1.toList := ⟨_, rfl⟩
          have hth : (w9.alloc (.cells #[.int .u64 0, .int .u64 0, .int .u64 0, .int .u64 0, .int .u64 0, .int .u64 0, .int .u64 0, .int .u64 0, .int .u64 0, .int .u64 0, .int .u64 0, .int .u64 0, .int .u64 0, .int .u64 0, .int .u64 0, .int .u64 0] 38)).there w9.heap.size 0 C1.size := by rw [hC1.size]; exact (Blk.new w9 _ _).there
          have hZ : Blk wF w9.heap.size 38 C1 := by rw [hF]; exact (Blk.new w9 _ _).setRow (by rw [hC1.size]; rfl)
          have bF : Below w9.heap.size w9 wF := by rw [hF]; exact ((Below.refl _ _).alloc (Nat.le_refl _) _).grown (grown_setCells _ _ _ _) (by simp) (fun q hq => by injection hq with hq; omega)
          have HF := Lib.hid hF
          clear hF
          have hYF := hY9.below bF hY9.lt
          have hDF := hD9.below bF hD9.lt
          have hVF := hV9.below bF hV9.lt
          have y0 : wF.cell? ⟨w8.heap.size, 0, none⟩ = some (.int .i64 0) := hYF.cell 0
          have y1 : wF.cell? ⟨w8.heap.size, 1, none⟩ = some (.int .u64 0) := hYF.cell 1
          have d0 : wF.cell? ⟨w.heap.size, 0, none⟩ = some (.int .i64 (k : Int)) := hDF.cell 0
          have d1 : wF.cell? ⟨w.heap.size, 1, none⟩ = some (.int .u64 (n : Int)) := hDF.cell 1
          obtain ⟨str, hstr⟩ : ∃ t : ByteArray, (⟨l.toArray⟩ : ByteArray) = t := ⟨_, rfl⟩
          have q0 := conv_mk (h09.below bF) hstr
          have q1 := conv_mk ((Hx7.out _ g79).below bF) hstr
          clear hstr
          have hRF := hR9.below bF
          have sv : ∀ w, (Op.equalIn 10000 38 (.agg C1) (.agg #[.int .u64 0, .int .u64 0, .int .u64 0, .int .u64 0, .int .u64 0, .int .u64 0, .int .u64 0, .int .u64 0, .int .u64 0, .int .u64 0, .int .u64 0, .int .u64 0, .int .u64 0, .int .u64 0, .int .u64 0, .int .u64 0])).run Try.prog w = .ok true w := fun w => by have := vec_self hC1 w; rw [HC1e.out] at this ⊢; exact this
          go_wp2_with (first | (refine wpList_store_mid rfl 38 _ _ rfl w9.heap.size 0 C1 rfl rfl hth hC1.info hC1.one ?_; rw [← HF.out]) | (refine wpList_load_row_g (by rfl) 38 (.tmp 15) rfl w9.heap.size rfl 38 C1 (0, 0) _ hZ Try.underlying38 rfl hC1.info ?_) | (refine wpList_load_row_g (by rfl) 38 (.tmp 6) rfl (w.heap.size + 1) rfl 38 cs.toArray (0, 0) _ hVF Try.underlying38 rfl hv.info ?_))
          go_wp2_with (first | (go_at_call 33; refine (failed_yes g _ hRF).mono ?_; rintro e w' ⟨rfl, rfl⟩) | (go_at_call 34; refine (end_yes g _ hRF).mono ?_; rintro e w' ⟨rfl, rfl⟩) | (go_at_call 13; refine (num_any _ _).mono ?_; rintro e w' ⟨rfl, rfl⟩) | (go_at_call 9; refine (known_any _).mono ?_; rintro e wK ⟨rfl, hbK⟩))
          go_ret
          exact ⟨rfl, (b9.trans (bF.mono b9.size)).trans (hbK.mono (Nat.le_trans b9.size bF.size))⟩
      · have H2 : ¬ 11 + l.length ≤ a := by omega
        have H3 : ¬ a = l.length + 139 := by omega
        have G1 : ¬ (2 + (l.length : Int)) ≤ (a : Int) := by omega
        have G2 : ¬ (11 + (l.length : Int)) ≤ (a : Int) := by omega
        have G3 : ((a : Int) == (l.length : Int) + 139) = false := beq_eq_false_iff_ne.2 (by omega)
        refine (blob_cut g l k n a vec w6 hl hv.len ha hr6).mono ?_
        rintro e w7 ⟨A7, m7, c7, rfl, hm7, hx7, hR7, hg7⟩
        simp only [if_neg H1] at hm7 hx7
        subst hm7
        have Hx7 := Lib.hid hx7
        have HR7 := Lib.hid hR7
        clear hx7 hR7
        go_wp2_with fail
        refine (dot_cut g l k n a vec w7 hl hv.len hk hn HR7.out).mono ?_
        rintro e w8 ⟨rfl, hR8, hg8⟩
        have HR8 := Lib.hid hR8
        clear hR8
        simp only [if_neg H2]
        go_wp2_with fail
        refine (vec_cut g l a cs.toArray vec _ hl hv ha (HR8.out.below ((Below.refl _ _).alloc (Nat.le_refl _) _))).mono ?_
        rintro e w9 ⟨rfl, hR9, hg9⟩
        simp only [if_neg H3] at hR9 ⊢
        have g78 := hg7.trans hg8
        have g89 : w8.grownBy w9 (some g) := grown_of_alloc hg9
        have g69 := g78.trans g89
        have g79 := hg8.trans g89
        have hz8 : g < w8.heap.size := Nat.lt_of_lt_of_le hgl g78.size
        have hY9 : Blk w9 w8.heap.size 36 #[.int .i64 0, .int .u64 0] := (Blk.new w8 _ _).grown hg9 (fun e => by injection e; omega)
        have hz9 : w8.heap.size < w9.heap.size := hY9.lt
        have hD9 := hD6.grown g69 (fun e => hDg (by injection e))
        have hV9 := hV6.grown g69 (fun e => hVg (by injection e))
        have b9 : Below w.heap.size w w9 := Below.only b6 g69 (by omega) b6.size
        have h09 := hsl.below b9
        obtain ⟨C1, hC1e⟩ : ∃ x : Array Value, x = zeros.toArray := ⟨_, rfl⟩
        have hC1 : Vec C1 (List.replicate 16 0) := by rw [hC1e]; exact zeros_vec
        rw [← hC1e]
        have HC1e := Lib.hid hC1e
        clear hC1e
        obtain ⟨wF, hF⟩ : ∃ x : World, x = (w9.alloc (.cells #[.int .u64 0, .int .u64 0, .int .u64 0, .int .u64 0, .int .u64 0, .int .u64 0, .int .u64 0, .int .u64 0, .int .u64 0, .int .u64 0, .int .u64 0, .int .u64 0, .int .u64 0, .int .u64 0, .int .u64 0, .int .u64 0] 38)).setCells w9.heap.size 0 C1.toList := ⟨_, rfl⟩
        have hth : (w9.alloc (.cells #[.int .u64 0, .int .u64 0, .int .u64 0, .int .u64 0, .int .u64 0, .int .u64 0, .int .u64 0, .int .u64 0, .int .u64 0, .int .u64 0, .int .u64 0, .int .u64 0, .int .u64 0, .int .u64 0, .int .u64 0, .int .u64 0] 38)).there w9.heap.size 0 C1.size := by rw [hC1.size]; exact (Blk.new w9 _ _).there
        have hZ : Blk wF w9.heap.size 38 C1 := by rw [hF]; exact (Blk.new w9 _ _).setRow (by rw [hC1.size]; rfl)
        have bF : Below w9.heap.size w9 wF := by rw [hF]; exact ((Below.refl _ _).alloc (Nat.le_refl _) _).grown (grown_setCells _ _ _ _) (by simp) (fun q hq => by injection hq with hq; omega)
        have HF := Lib.hid hF
        clear hF
        have hYF := hY9.below bF hY9.lt
        have hDF := hD9.below bF hD9.lt
        have hVF := hV9.below bF hV9.lt
        have y0 : wF.cell? ⟨w8.heap.size, 0, none⟩ = some (.int .i64 0) := hYF.cell 0
        have y1 : wF.cell? ⟨w8.heap.size, 1, none⟩ = some (.int .u64 0) := hYF.cell 1
        have d0 : wF.cell? ⟨w.heap.size, 0, none⟩ = some (.int .i64 (k : Int)) := hDF.cell 0
        have d1 : wF.cell? ⟨w.heap.size, 1, none⟩ = some (.int .u64 (n : Int)) := hDF.cell 1
        obtain ⟨str, hstr⟩ : ∃ t : ByteArray, (⟨l.toArray⟩ : ByteArray) = t := ⟨_, rfl⟩
        have q0 := conv_mk (h09.below bF) hstr
        clear hstr
        have hRF := hR9.below bF
        have sv : ∀ w, (Op.equalIn 10000 38 (.agg C1) (.agg #[.int .u64 0, .int .u64 0, .int .u64 0, .int .u64 0, .int .u64 0, .int .u64 0, .int .u64 0, .int .u64 0, .int .u64 0, .int .u64 0, .int .u64 0, .int .u64 0, .int .u64 0, .int .u64 0, .int .u64 0, .int .u64 0])).run Try.prog w = .ok true w := fun w => by have := vec_self hC1 w; rw [HC1e.out] at this ⊢; exact this
        go_wp2_with (first | (refine wpList_store_mid rfl 38 _ _ rfl w9.heap.size 0 C1 rfl rfl hth hC1.info hC1.one ?_; rw [← HF.out]) | (refine wpList_load_row_g (by rfl) 38 (.tmp 15) rfl w9.heap.size rfl 38 C1 (0, 0) _ hZ Try.underlying38 rfl hC1.info ?_) | (refine wpList_load_row_g (by rfl) 38 (.tmp 6) rfl (w.heap.size + 1) rfl 38 cs.toArray (0, 0) _ hVF Try.underlying38 rfl hv.info ?_))
        go_wp2_with (first | (go_at_call 33; refine (failed_yes g _ hRF).mono ?_; rintro e w' ⟨rfl, rfl⟩) | (go_at_call 34; refine (end_yes g _ hRF).mono ?_; rintro e w' ⟨rfl, rfl⟩) | (go_at_call 13; refine (num_any _ _).mono ?_; rintro e w' ⟨rfl, rfl⟩) | (go_at_call 9; refine (known_any _).mono ?_; rintro e wK ⟨rfl, hbK⟩))
        go_ret
        exact ⟨rfl, (b9.trans (bF.mono b9.size)).trans (hbK.mono (Nat.le_trans b9.size bF.size))⟩
end Go.Proofs.Yteneicngmglgbaa

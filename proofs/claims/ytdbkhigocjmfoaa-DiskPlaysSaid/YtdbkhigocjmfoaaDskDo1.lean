/-
  The law's do, of an append: its bytes stand in a slice of the law's own, which is written over behind the call.
-/
import Derived.Test.YtdbkhigocjmfoaaDskDo
namespace Go.Proofs.Ytdbkhigocjmfoaa
open Go.RowKit Go.Maps Go.Shelf
open DskM
set_option linter.unusedVariables false
set_option linter.unusedSimpArgs false
set_option maxRecDepth 100000

theorem Turn.keep' {B : Nat} {w w' : World} {p m : Nat} {S : Ds} {L : List Fo} {F : List Fp} (h : Turn B w p m L S F w') : Keep (fun i => Foot p m L i ∨ B ≤ i) w w' := by
  obtain ⟨_, _, _, k, _⟩ := h
  exact k
theorem Own.rowAt {w : World} {base n c : Nat} {A : Option Addr} {m : List UInt8} (h : Own w base 5 (.slice A n c) m) (h0 : 0 < m.length) : ∃ g cs, A = some ⟨g, 0, none⟩ ∧ base ≤ g ∧ Blk w g 5 cs ∧ m.length ≤ cs.size := by
  rcases h.2 with ⟨e, h1⟩ | ⟨g, cap, cur, e, hg, hh, h4, h5, h6, h7⟩
  · omega
  · injection e with e1 e2 e3
    refine ⟨g, cur, e1, hg, hh, ?_⟩
    have := congrArg List.length h7
    simp at this
    omega
set_option maxHeartbeats 4000000 in
theorem do1 {w : World} {p m : Nat} {S : Ds} {L : List Fo} (h : Dk w p m S L) (hw : S.wr ≤ 1000000) (s : St) (hs : StAt w s) (hk : s.kind = 1) :
    Calls Try.prog 13 #[.pointer (some ⟨p, 0, none⟩), .agg s.cs] w fun e w' => ∃ p', e = .returned (.tuple #[.int .i64 (doS S (plain L) s).1, .pointer (some ⟨p', 0, none⟩)]) ∧ TurnP w p m L (doS S (plain L) s).2.1 (doS S (plain L) s).2.2 w' p' := by
  have hfo : Try.prog.follows .mixedOrders = true := by kernel_rfl
  obtain ⟨i0, hi, hz0, hz1, hz2⟩ := info_parts info_u8
  have hb0 : Below w.heap.size w (w.alloc (.cells s.cs 41)) := al1 w _
  have hB := Blk.new w 41 s.cs
  obtain ⟨kk, n, nm, nt, b, bv, kp, kv⟩ := s
  simp only [St.cs] at hB hb0 hk
  subst hk
  have hlt := h.lt
  have hd0 := h.below hb0
  have hs0 := hs.below hb0
  have hsb : Sl w bv b := hs.b
  obtain ⟨A0, c0, rfl, _, _⟩ := hsb
  obtain ⟨W0, hW0⟩ : ∃ W0, W0 = w.alloc (.cells #[.int .i64 1, .int .i64 n, .string nm, .string nt, .slice A0 b.length c0, kv] 41) := ⟨_, rfl⟩
  have hz : W0.heap.size = w.heap.size + 1 := by rw [hW0]; simp
  rw [← hW0] at hb0 hB hd0 hs0
  have HD := Lib.hid hd0
  have HS := Lib.hid hs0
  have HB0 := Lib.hid hb0
  have HW := Lib.hid hw
  have HBS := Lib.hid hB
  have HZ := Lib.hid hz
  have HLT := Lib.hid hlt
  have HLEN := Lib.hid (show b.length ≤ 20000 from hs.len)
  have HW0 := Lib.hid hW0
  have q0 : W0.cell? ⟨w.heap.size, 0, none⟩ = some (.int .i64 1) := by rw [hB.cell]; rfl
  have q4 : W0.cell? ⟨w.heap.size, 4, none⟩ = some (.slice A0 b.length c0) := by rw [hB.cell]; rfl
  rw [hW0] at q0 q4
  clear hb0 hd0 hs0 h hs hw hB hz hW0 hlt
  simp only [doS, if_true]
  obtain ⟨r, hr⟩ : ∃ r, appendS S (plain L) nm.data.toList b = r := ⟨_, rfl⟩
  have HR := Lib.hid hr
  rw [hr]
  clear hr
  show Calls Try.prog _ #[.pointer (some ⟨p, 0, none⟩), .agg #[.int .i64 1, .int .i64 n, .string nm, .string nt, .slice A0 b.length c0, kv]] w _
  go_enter Try.func13, Try.ntmps13
  go_wp2_with (at_builtin; (rw [← HW0.out]; refine wpList_append_bytesA _ rfl _ _ 38 rfl W0.heap.size 5 i0 Try.underlying38 hi hz0 hz1 hz2 (.slice none 0 0) [] rfl Own.nil _ b rfl HS.out.b (by have := HLEN.out; simp; omega) (Nat.le_refl _) ?_))
  intro v2 w2 ho2 hg2 hl2 hb2
  have ho2 : Own w2 W0.heap.size 5 v2 b := ho2
  have HO2 := Lib.hid ho2
  have HB2 := Lib.hid hb2
  clear ho2 hg2 hl2 hb2
  go_wp2_with (at_builtin; refine wpList_append_bytesA _ rfl _ _ 38 rfl W0.heap.size 5 i0 Try.underlying38 hi hz0 hz1 hz2 v2 b rfl (HO2.out.alloc _) _ [7] rfl (Sl.one w2 5 7 7 rfl) (by have := HLEN.out; simp; omega) (by have := HB2.out.size; simp; omega) ?_)
  intro v3 w3 ho3 hg3 hl3 hb3
  have hb03 : Below W0.heap.size W0 w3 := (HB2.out.alloc HB2.out.size _).trans hb3
  obtain ⟨A, nn, c, rfl⟩ := ho3.shape
  have hsl3 := ho3.sl
  obtain rfl : nn = (b ++ [7]).length := hsl3.len
  obtain ⟨g, cs, eA, hgl, hrow, hrl⟩ := ho3.rowAt (by simp)
  subst eA
  have hll : (b ++ [7]).length = b.length + 1 := by simp
  rw [hll] at hsl3 hrl ⊢
  have hcl : b.length + 1 ≤ c := by obtain ⟨_, _, e, h1, _⟩ := hsl3; injection e with _ _ e; rw [hll] at h1; omega
  have hcap : c ≤ 9223372036854775807 := by
    rcases ho3.2 with ⟨h1, _⟩ | ⟨g, cap, cur, h1, _, _, _, h5, _⟩
    · injection h1 with _ _ a3; omega
    · injection h1 with _ _ a3; unfold maxLen at h5; omega
  have hslb : Sl w3 (.slice (some ⟨g, 0, none⟩) b.length c) b := by have := hsl3.front b.length (by omega); simpa using this
  have hd3 := HD.out.below hb03
  have hb3' := HBS.out.below hb03 HBS.out.lt
  have hS0 : w3.drew.cell? ⟨w.heap.size, 2, none⟩ = some (.string nm) ∧ w3.drew.cell? ⟨w.heap.size, 4, none⟩ = some (.slice A0 b.length c0) := ⟨by rw [hb3'.drew.cell]; rfl, by rw [hb3'.drew.cell]; rfl⟩
  have hap := append_any (hd3.below (Below.refl w3.heap.size w3).drew) HW.out nm (.slice (some ⟨g, 0, none⟩) b.length c) b hslb
  rw [HR.out] at hap
  have hrow' : Blk w3.drew g 5 cs := hrow.drew
  have hnb : ¬ (Foot p m L w.heap.size ∨ w3.drew.heap.size ≤ w.heap.size) := fun e => e.elim (fun e => Nat.lt_irrefl _ (HLT.out _ e)) (fun e => by have e : w3.heap.size ≤ w.heap.size := e; have := hb03.size; have := HZ.out; omega)
  have hng : ¬ (Foot p m L g ∨ w3.drew.heap.size ≤ g) := fun e => e.elim (fun e => by have := HLT.out _ e; have := HZ.out; omega) (fun e => by have e : w3.heap.size ≤ g := e; have := hrow.lt; omega)
  have hbw : Below w.heap.size w w3.drew := HB0.out.trans ((hb03.trans ((Below.refl _ _).drew.mono hb03.size)).mono HB0.out.size)
  have HAP := Lib.hid hap
  have HROW := Lib.hid hrow'
  have HNB := Lib.hid hnb
  have HNG := Lib.hid hng
  have HBW := Lib.hid hbw
  have HRL := Lib.hid hrl
  have HGL := Lib.hid (show w.heap.size + 1 ≤ g by have := HZ.out; omega)
  have hbcI : (b.length : Int) ≤ (c : Int) := by omega
  have hb0I : (0 : Int) ≤ (b.length : Int) := by omega
  have hb2I : (b.length : Int) ≤ 20000 := by have := HLEN.out; omega
  clear hap hrow hrow' hnb hng hbw hb3' hd3 hslb hsl3 hb03 ho3 hg3 hl3 hb3 hrl hgl hll q0 q4 hcl
  go_wp2_with fail
  refine wp_region_held_drew (S := fun X => X.cell? ⟨w.heap.size, 2, none⟩ = some (.string nm) ∧ X.cell? ⟨w.heap.size, 4, none⟩ = some (.slice A0 b.length c0)) hfo hS0 (fun hS0 => ?_)
  generalize w3.drew = W4 at hS0 HAP HROW HNB HNG HBW ⊢
  refine' wpAnyH_take (i := 0) (oi := ⟨some 18, _, _, _, _, _⟩) (v := _) rfl (by kernel_rfl) (by kernel_rfl) (by kernel_rfl) (fun _ _ _ h => h) (Or.inl ⟨by rfl, ?y0⟩) hS0 ?r0
  case y0 => (intro w' hSw; obtain ⟨s0, s1⟩ := hSw; go_simp; try rfl)
  try simp only [Act.put, List.setIfInBounds_toArray, List.set_cons_zero, List.set_cons_succ]
  refine' wpAnyH_take (i := 1) (oi := ⟨some 19, _, _, _, _, _⟩) (v := _) rfl (by kernel_rfl) (by kernel_rfl) (by kernel_rfl) (fun _ _ _ h => h) (Or.inl ⟨by rfl, ?y1⟩) hS0 ?r1
  case y1 => (intro w' hSw; obtain ⟨s0, s1⟩ := hSw; go_simp; try rfl)
  try simp only [Act.put, List.setIfInBounds_toArray, List.set_cons_zero, List.set_cons_succ]
  refine' wpAnyH_take (i := 2) (oi := ⟨some 20, _, _, _, _, _⟩) (v := _) rfl (by kernel_rfl) (by kernel_rfl) (by kernel_rfl) (fun _ _ _ h => h) (Or.inl ⟨by rfl, ?y2⟩) hS0 ?r2
  case y2 => (intro w' hSw; obtain ⟨s0, s1⟩ := hSw; go_simp; try rfl)
  try simp only [Act.put, List.setIfInBounds_toArray, List.set_cons_zero, List.set_cons_succ]
  refine' wpAnyH_take (i := 3) (oi := ⟨some 21, _, _, _, _, _⟩) (v := _) rfl (by kernel_rfl) (by kernel_rfl) (by kernel_rfl) (fun _ _ _ h => h) (Or.inl ⟨by rfl, ?y3⟩) hS0 ?r3
  case y3 => (intro w' hSw; obtain ⟨s0, s1⟩ := hSw; go_simp; try rfl)
  try simp only [Act.put, List.setIfInBounds_toArray, List.set_cons_zero, List.set_cons_succ]
  refine' wpAnyH_take (i := 4) (oi := ⟨some 22, _, _, _, _, _⟩) (v := _) rfl (by kernel_rfl) (by kernel_rfl) (by kernel_rfl) (fun _ _ _ h => h) (Or.inl ⟨by rfl, ?y4⟩) hS0 ?r4
  case y4 => (intro w' hSw; obtain ⟨s0, s1⟩ := hSw; go_simp; try rfl)
  try simp only [Act.put, List.setIfInBounds_toArray, List.set_cons_zero, List.set_cons_succ]
  refine' wpAnyH_take (i := 5) (oi := ⟨some 23, _, _, _, _, _⟩) (v := _) rfl (by kernel_rfl) (by kernel_rfl) (by kernel_rfl) (fun _ _ _ h => h) (Or.inl ⟨by rfl, ?y5⟩) hS0 ?r5
  case y5 => (intro w' hSw; obtain ⟨s0, s1⟩ := hSw; go_simp; try rfl)
  try simp only [Act.put, List.setIfInBounds_toArray, List.set_cons_zero, List.set_cons_succ]
  refine' wpAnyH_take (i := 6) (oi := ⟨some 24, _, _, _, _, _⟩) (v := _) rfl (by kernel_rfl) (by kernel_rfl) (by kernel_rfl) (fun _ _ _ h => h) (Or.inl ⟨by rfl, ?y6⟩) hS0 ?r6
  case y6 => (intro w' hSw; obtain ⟨s0, s1⟩ := hSw; go_simp; try rfl)
  try simp only [Act.put, List.setIfInBounds_toArray, List.set_cons_zero, List.set_cons_succ]
  refine' wpAnyH_take (i := 7) (oi := ⟨some 25, _, _, _, _, _⟩) (v := _) rfl (by kernel_rfl) (by kernel_rfl) (by kernel_rfl) (fun _ _ _ h => h) (Or.inl ⟨by rfl, ?y7⟩) hS0 ?r7
  case y7 => (intro w' hSw; obtain ⟨s0, s1⟩ := hSw; go_simp; try rfl)
  try simp only [Act.put, List.setIfInBounds_toArray, List.set_cons_zero, List.set_cons_succ]
  refine held_one (i := 8) (by kernel_rfl) rfl (fun K hK => ?_)
  go_simp
  refine HAP.out.mono ?_
  rintro e w5 ⟨rfl, ht⟩
  have hk5 := ht.keep'
  have hS5 : w5.cell? ⟨w.heap.size, 2, none⟩ = some (.string nm) ∧ w5.cell? ⟨w.heap.size, 4, none⟩ = some (.slice A0 b.length c0) := ⟨hk5.cell hS0.1 (fun e => HNB.out e), hk5.cell hS0.2 (fun e => HNB.out e)⟩
  have HT := Lib.hid ht
  have hgr := HROW.out.kept hk5 (fun e => HNG.out e)
  have HG := Lib.hid hgr
  clear ht hk5 hgr
  refine hK.out _ _ hS5 (fun _ => ?_)
  clear hK K
  try simp only [Act.put, List.setIfInBounds_toArray, List.set_cons_zero, List.set_cons_succ]
  refine' wpAnyH_take (i := 9) (oi := ⟨some 7, _, _, _, _, _⟩) (v := _) rfl (by kernel_rfl) (by kernel_rfl) (by kernel_rfl) (fun _ _ _ h => h) (Or.inl ⟨by rfl, ?y9⟩) hS5 ?r9
  case y9 => (intro w' hSw; obtain ⟨s0, s1⟩ := hSw; go_simp; try rfl)
  try simp only [Act.put, List.setIfInBounds_toArray, List.set_cons_zero, List.set_cons_succ]
  refine wpAnyH_done (by kernel_rfl) ?_ _
  go_wp2_with fail
  go_loopw [8] (fun z wr => ∃ i : Nat, z = .int .i64 (i : Int) ∧ i ≤ b.length + 1 ∧ (∃ cs, Blk wr g 5 cs ∧ b.length + 1 ≤ cs.size) ∧ Keep (fun i => i = g) w5 wr) (fun z _ => b.length + 1 - (intOf z).toNat)
  case atStart => exact ⟨0, rfl, Nat.zero_le _, ⟨cs, HG.out, HRL.out⟩, Keep.refl _ _⟩
  case round =>
    clear hS0 hS5
    obtain ⟨i, rfl, hi1, ⟨cs', hr', hl'⟩, hkr⟩ := hrel
    have HKR := Lib.hid hkr
    have HR' := Lib.hid hr'
    have HL' := Lib.hid hl'
    clear hkr
    by_cases hlt : i < b.length + 1
    · have c1 : wr.cell? ⟨g, i, none⟩ = some (cs'[i]'(by omega)) := by rw [hr'.cell]; simp
      have f1 := hr'.frozen i
      generalize (cs'[i]'(by omega)) = u at c1
      have hIi : (i : Int) < (b.length : Int) + 1 := by omega
      have hI0 : (0 : Int) ≤ (i : Int) := by omega
      have hkN : Keep (fun i => i = g) w5 (wr.setCell ⟨g, i, none⟩ (.int .u8 9)) := HKR.out.trans (Keep.setCell (S := fun i => i = g) wr ⟨g, i, none⟩ _ rfl) (fun _ h => h) (fun _ _ h => h)
      have HN := Lib.hid (And.intro (HR'.out.set_ i (.int .u8 9)) hkN)
      have HLT2 := Lib.hid hlt
      clear hr' hl' hkN
      go_wp2
      exact ⟨⟨i + 1, by simp, HLT2.out, ⟨_, HN.out.1, by rw [Array.size_setIfInBounds]; exact HL'.out⟩, HN.out.2⟩, by have := HLT2.out; simp [intOf]; omega⟩
    · obtain rfl : i = b.length + 1 := by omega
      clear hr' hl' hlt hi1
      go_wp2_with fail
      refine (num_any r.1 wr).mono ?_
      rintro e wx ⟨rfl, hwx⟩
      rw [hwx]
      clear hwx wx
      go_wp2
      go_ret2
      obtain ⟨L', e1, hd5, hk5, hf5⟩ := HT.out
      have hngf : ∀ i, Foot p m L' i → i ≠ g := fun i hi e => by subst e; exact HNG.out (hf5 i hi)
      have hwz : w.heap.size ≤ W4.heap.size := HBW.out.size
      refine ⟨p, rfl, m, L', e1, hd5.kept HKR.out hngf, ?_, fun i hi => (hf5 i hi).imp id (fun h => Nat.le_trans hwz h)⟩
      refine ((Keep.of_below (S := fun i => Foot p m L i ∨ w.heap.size ≤ i) HBW.out).trans hk5 (fun _ h => h) (fun i _ e => e.imp id (fun h => Nat.le_trans hwz h))).trans HKR.out (fun _ h => h) (fun i _ e => .inr ?_)
      have := HGL.out
      have e : i = g := e
      omega
theorem do_any {w : World} {p m : Nat} {S : Ds} {L : List Fo} (h : Dk w p m S L) (hw : S.wr ≤ 1000000) (s : St) (hs : StAt w s) :
    Calls Try.prog 13 #[.pointer (some ⟨p, 0, none⟩), .agg s.cs] w fun e w' => ∃ p', e = .returned (.tuple #[.int .i64 (doS S (plain L) s).1, .pointer (some ⟨p', 0, none⟩)]) ∧ TurnP w p m L (doS S (plain L) s).2.1 (doS S (plain L) s).2.2 w' p' := by
  by_cases h1 : s.kind = 1
  · exact do1 h hw s hs h1
  by_cases h2 : s.kind = 2
  · exact do2 h hw s hs h2
  by_cases h3 : s.kind = 3
  · exact do3 h hw s hs h3
  by_cases h4 : s.kind = 4
  · exact do4 h hw s hs h4
  by_cases h5 : s.kind = 5
  · exact do5 h hw s hs h5
  by_cases h6 : s.kind = 6
  · exact do6 h hw s hs h6
  by_cases h7 : s.kind = 7
  · exact do7 h hw s hs h7
  exact do0 h hw s hs (fun k a b e => by omega)
end Go.Proofs.Ytdbkhigocjmfoaa

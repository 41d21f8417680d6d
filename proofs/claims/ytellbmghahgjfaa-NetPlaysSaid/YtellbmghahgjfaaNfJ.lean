/-
  NetLines: all flights, line by line, are those of all lines; behind Clear none is in flight to that end, and all else stays.
-/
import Derived.Test.YtellbmghahgjfaaNfI
namespace Go.Proofs.Ytellbmghahgjfaa
open Go.RowKit Go.Maps
open NetM
set_option linter.unusedVariables false
set_option linter.unusedSimpArgs false
set_option maxRecDepth 20000
/-- The two ends of a number below 36, the document's own order of going over them. -/
def gk (j : Nat) : Pr := (((j / 6 : Nat) : Int), ((j % 6 : Nat) : Int))
theorem gk_at (a b : Nat) (hb : b < 6) : gk (6 * a + b) = ((a : Int), (b : Int)) := by
  unfold gk
  rw [show (6 * a + b) / 6 = a by omega, show (6 * a + b) % 6 = b by omega]
def cnt {α : Type} (V : List (Fl α)) : Nat → Nat
  | 0 => 0
  | j + 1 => cnt V j + (lineOf V (gk j)).length
def tot {α : Type} (V : List (Fl α)) (e : Int) : Nat → Nat
  | 0 => 0
  | j + 1 => tot V e j + (if (gk j).2 = e then (lineOf V (gk j)).length else 0)
theorem cnt_sum {α : Type} (V : List (Fl α)) : ∀ n, cnt V n = (((List.range n).map gk).map fun p => (lineOf V p).length).sum
  | 0 => rfl
  | n + 1 => by
    rw [List.range_succ, List.map_append, List.map_append, List.sum_append, ← cnt_sum V n]
    simp [cnt]
theorem gk_inj : ((List.range 36).map gk).Nodup := by decide +kernel
theorem gk_all {p : Pr} (h : InR 4 p) : p ∈ (List.range 36).map gk := by
  obtain ⟨h1, h2, h3, h4, _⟩ := h
  refine List.mem_map.2 ⟨6 * p.1.toNat + p.2.toNat, List.mem_range.2 (by omega), ?_⟩
  rw [gk_at _ _ (by omega)]
  exact Prod.ext (by show _ = p.1; omega) (by show _ = p.2; omega)
theorem cnt_all {α : Type} {V : List (Fl α)} (h : ∀ f ∈ V, InR 4 f.p) : cnt V 36 = V.length := by
  rw [cnt_sum, sum_lines _ V gk_inj fun f hf => gk_all (h f hf)]
theorem tot_clear {α : Type} (V : List (Fl α)) (e : Int) : ∀ n, tot V e n + cnt (clear V e) n = cnt V n
  | 0 => rfl
  | n + 1 => by
    have ih := tot_clear V e n
    simp only [tot, cnt]
    rw [clear_line]
    by_cases h : (gk n).2 = e
    · rw [if_pos h, if_pos h]; simp only [List.length_nil]; omega
    · rw [if_neg h, if_neg h]; omega
theorem tot_all {α : Type} {V : List (Fl α)} (h : ∀ f ∈ V, InR 4 f.p) (e : Int) : tot V e 36 + (clear V e).length = V.length := by
  have h1 := tot_clear V e 36
  have h2 : cnt (clear V e) 36 = (clear V e).length := cnt_all fun f hf => h f (List.mem_filter.1 hf).1
  rw [cnt_all h, h2] at h1
  exact h1
theorem cnt_le {α : Type} {V : List (Fl α)} (h : ∀ q, (lineOf V q).length ≤ 64) : ∀ n, cnt V n ≤ 64 * n
  | 0 => by simp [cnt]
  | n + 1 => by
    have := cnt_le h n
    have := h (gk n)
    simp only [cnt]; omega
theorem tot_le {α : Type} (V : List (Fl α)) (e : Int) : ∀ n, tot V e n ≤ cnt V n
  | 0 => Nat.le_refl _
  | n + 1 => by
    have := tot_le V e n
    simp only [tot, cnt]
    split <;> omega
theorem line_self {α : Type} {V : List (Fl α)} (h : ∀ f ∈ V, InR 4 f.p) (a : Int) : lineOf V (a, a) = [] := lineOf_none fun f hf e => by
  have := h f hf
  rw [e] at this
  exact this.2.2.2.2 rfl
section
variable {w w' W W' : World} {B p b x : Nat} {E lv lr : Int} {V R : List (Fl Pl)}
theorem two_line (h : Two B W p b x E lv V lr R) (q : Pr) (hq : OkP q) : Calls Try.prog 23 #[.pointer (some ⟨p, 0, none⟩), .int .i64 q.1, .int .i64 q.2] W fun e W' => e = .returned (.int .i64 ((lineOf V q).length : Int)) ∧ Below W.heap.size W W' := by
  obtain ⟨K, G, hn, hG⟩ := h.nt
  exact line_any hn q hq
theorem Two.inr (h : Two B W p b x E lv V lr R) : (∀ f ∈ V, InR E f.p) ∧ ∀ q, (lineOf V q).length ≤ 64 := by
  obtain ⟨K, G, hn, hG⟩ := h.nt
  exact ⟨hn.inr, hn.full⟩
/-- Both nets, with nothing in flight. -/
theorem two_new {w X : World} {p b : Nat} {E : Int} (hN : Nt X p b E 0 [] [] (fun _ => False)) (hb : Below w.heap.size w X) (hp : w.heap.size ≤ p) (hbb : w.heap.size ≤ b) :
    Two w.heap.size (X.alloc (.cells #[.slice none 0 0, .int .i64 E, .int .i64 0] 33)) p b X.heap.size E 0 [] 0 [] :=
  ⟨⟨_, _, hN.below ((Below.refl _ _).alloc (Nat.le_refl _) _), fun i h => h.elim⟩, ⟨nilS, Blk.new X _ _, OwnK.nil, by simp, by simp, hb.size⟩, hp, hbb⟩
end
/-- The act of a place, as it stands in memory. -/
theorem act_at {w : World} {A : Option Addr} {L : List NA.St} (ha : 0 < L.length → ∃ b o, A = some ⟨b, o, none⟩ ∧ ∀ j (h : j < L.length), NA.StCells w b (o + j * 4) L[j] ∧ NA.St0 w L[j]) (k : Nat) (hk : k < L.length) :
    ∃ b o, A = some ⟨b, o, none⟩ ∧ NA.St0 w L[k] ∧ ∀ X, Below w.heap.size w X → X.cell? ⟨b, o + k * 4, none⟩ = some (.int .i64 L[k].kind) ∧ X.cell? ⟨b, o + k * 4 + 1, none⟩ = some (.int .i64 L[k].x) ∧ X.cell? ⟨b, o + k * 4 + 2, none⟩ = some (.int .i64 L[k].y) ∧ X.cell? ⟨b, o + k * 4 + 3, none⟩ = some L[k].bv := by
  obtain ⟨b, o, e, hx⟩ := ha (by omega)
  obtain ⟨hcs, h0⟩ := hx k hk
  exact ⟨b, o, e, h0, fun X hX => hcs.below hX⟩
set_option maxHeartbeats 16000000 in
theorem netLines_any (v : Value) (L : List NA.St) (en : Int) (w : World) (hs : NA.Sts w v L) (hen1 : -9223372036854775808 ≤ en) (hen2 : en ≤ 9223372036854775807) :
    Calls Try.prog 6 #[v, .int .i64 en] w fun e w' => e = .returned (.bool true) ∧ Below w.heap.size w w' := by
  have hfo : Try.prog.follows .mixedOrders = true := by kernel_rfl
  have hmu := NA.much_any v L w hs
  obtain ⟨A, c, rfl, hc, ha⟩ := hs
  have Ha := Lib.hid ha
  clear ha
  go_enter Try.func6, Try.ntmps6
  go_upto_region 1 with fail
  go_upto_region 3 with (go_at_call 12; refine hmu.mono ?_; rintro e w1 ⟨r, rfl, rfl, hfew⟩; cases r)
  rotate_left
  · go_wp2_with (go_at_call 11; refine (nknown_any _).mono ?_; rintro e w2 ⟨rfl, hb⟩)
    go_ret
    exact ⟨rfl, hb⟩
  have hF := hfew trivial
  have hF60 := hF.len
  have HFB := Lib.hid hF.b
  clear hfew hmu
  go_upto_region 4 with (go_at_call 9; refine (new_any 4 (by decide) (by decide) _).mono ?_; rintro e w1 ⟨p, b, rfl, hN, hb1, hp, hbb⟩)
  have hM0 := two_new hN hb1 hp hbb
  have hB0 := hb1.alloc hb1.size (.cells #[.slice none 0 0, .int .i64 4, .int .i64 0] 33)
  obtain ⟨x, hx⟩ : ∃ x, w1.heap.size = x := ⟨_, rfl⟩
  clear hN hb1 hp hbb
  go_upto_region 5 with fail
  rw [hx] at hM0
  try rw [hx]
  generalize w1.alloc (.cells #[.slice none 0 0, .int .i64 4, .int .i64 0] 33) = W at hM0 hB0 ⊢
  clear hx
  go_upto_region 7 with (go_at_call 10; refine (num_any _ _).mono ?_; rintro e w2 ⟨rfl, hwd⟩; obtain rfl := hwd.symm)
  go_wp2
  go_loopw [8] (fun z wr => ∃ (k : Nat) (lv : Int) (V R : List (Fl Pl)), k ≤ L.length ∧ z = .int .i64 (k : Int) ∧ lv ≤ 70 * (k : Int) ∧ Below w.heap.size w wr ∧ Two w.heap.size wr p b x 4 lv V lv R ∧ Hid (pv V = pv R)) (fun z _ => L.length - (intOf z).toNat)
  case atStart => exact ⟨0, 0, [], [], Nat.zero_le _, rfl, by omega, hB0, hM0, Lib.hid rfl⟩
  case round =>
    obtain ⟨k, lv, V, R, hk, rfl, hlv, hb, hM, he⟩ := hrel
    clear hM0 hB0
    have hkM : (k : Int) ≤ 60 := by omega
    by_cases hlt : k < L.length
    · obtain ⟨bb, o, rfl, h0, hcs⟩ := act_at Ha.out k hlt
      obtain ⟨c0, c1, c2, c3⟩ := hcs wr hb
      have hkI : (k : Int) < (L.length : Int) := by omega
      have HDO := Lib.hid (do_any hb hM he.out (by omega) L[k] h0 (HFB.out _ (List.getElem_mem hlt)))
      clear h0 hcs
      generalize L[k] = s at HDO c0 c1 c2 c3
      obtain ⟨kd, sx, sy, sb, sbv⟩ := s
      simp only at HDO c0 c1 c2 c3
      go_wp2_with (go_at_call 15; refine HDO.out.mono ?_; rintro e Z ⟨rfl, hkZ, lv1, V1, R1, hl1, hT1, he1⟩)
      go_roundw
      case rel => exact ⟨k + 1, lv1, V1, R1, by omega, by go_num, by omega, Keep.below hb hkZ hb.size hM.ge3, hT1, Lib.hid he1⟩
      case measure => simp [intOf]; omega
    · obtain rfl : k = L.length := by omega
      clear hlt hk he
      obtain ⟨hin, hfull⟩ := hM.inr
      have HIN := Lib.hid hin
      have HFU := Lib.hid hfull
      have HCL := Lib.hid (cnt_le hfull)
      have HTL := Lib.hid (tot_le V en)
      clear hin hfull
      have HM := Lib.hid hM
      have HB := Lib.hid hb
      clear hM hb hlv
      generalize wr = W5 at HM HB ⊢
      have HLI := Lib.hid (show ∀ (a b : Nat) X, a < 10 → b < 10 → Below W5.heap.size W5 X → Calls Try.prog 23 #[.pointer (some ⟨p, 0, none⟩), .int .i64 (a : Int), .int .i64 (b : Int)] X fun e W' => e = .returned (.int .i64 ((lineOf V ((a : Int), (b : Int))).length : Int)) ∧ Below X.heap.size X W' from fun a b X ha hb hX => two_line (HM.out.below hX) ((a : Int), (b : Int)) (by unfold OkP; simp only; omega))
      go_wp2
      go_loopw [9, 10, 11] (fun cc tt z wy => ∃ (a : Nat), a ≤ 6 ∧ z = .int .i64 (a : Int) ∧ cc = .int .i64 (cnt V (6 * a) : Int) ∧ tt = .int .i64 (tot V en (6 * a) : Int) ∧ Below W5.heap.size W5 wy) (fun _ _ z _ => (6 - intOf z).toNat)
      case atStart => exact ⟨0, by omega, rfl, rfl, rfl, Below.refl _ _⟩
      case round =>
        obtain ⟨a, ha6, rfl, rfl, rfl, hb⟩ := hrel
        by_cases hlta : a < 6
        · have haI : (a : Int) ≤ 5 := by omega
          clear ha6
          go_wp2
          go_loopw [9, 10, 12] (fun cc tt z wy => ∃ (d : Nat), d ≤ 6 ∧ z = .int .i64 (d : Int) ∧ cc = .int .i64 (cnt V (6 * a + d) : Int) ∧ tt = .int .i64 (tot V en (6 * a + d) : Int) ∧ Below W5.heap.size W5 wy) (fun _ _ z _ => (6 - intOf z).toNat)
          case atStart => exact ⟨0, by omega, rfl, rfl, rfl, hb⟩
          case round =>
            clear hb
            obtain ⟨d, hd6, rfl, rfl, rfl, hb⟩ := hrel
            by_cases hltd : d < 6
            · have hdI : (d : Int) ≤ 5 := by omega
              have hcc := HCL.out (6 * a + d)
              have htt := HTL.out (6 * a + d)
              have HC2 := Lib.hid (show cnt V (6 * a + (d + 1)) = cnt V (6 * a + d) + (lineOf V ((a : Int), (d : Int))).length by rw [← gk_at a d hltd]; rfl)
              have HT2 := Lib.hid (show tot V en (6 * a + (d + 1)) = tot V en (6 * a + d) + (if (d : Int) = en then (lineOf V ((a : Int), (d : Int))).length else 0) by
                rw [show (if (d : Int) = en then (lineOf V ((a : Int), (d : Int))).length else 0) = (if (gk (6 * a + d)).2 = en then (lineOf V (gk (6 * a + d))).length else 0) by rw [gk_at a d hltd]]; rfl)
              have hm64 := HFU.out ((a : Int), (d : Int))
              have HLN := Lib.hid (HLI.out a d wr (by omega) (by omega) hb)
              have HSE := Lib.hid (show a = d → (lineOf V ((a : Int), (d : Int))).length = 0 from fun e => by rw [e, line_self HIN.out]; rfl)
              generalize cnt V (6 * a + d) = cc at hcc htt HC2 ⊢
              generalize tot V en (6 * a + d) = tt at htt HT2 ⊢
              generalize (lineOf V ((a : Int), (d : Int))).length = m at hm64 HLN HC2 HT2 HSE
              have hccI : (cc : Int) ≤ 2304 := by omega
              have httI : (tt : Int) ≤ 2304 := by omega
              have hmI : ¬ (64 : Int) < (m : Int) := by omega
              have hmI2 : (m : Int) ≤ 64 := by omega
              have hm0 : ¬ (m : Int) < 0 := by omega
              clear hcc htt hd6 hm64
              by_cases hen : (d : Int) = en
              · have HT3 := Lib.hid (show tot V en (6 * a + (d + 1)) = tt + m by rw [HT2.out, if_pos hen])
                have j9 : ((d : Int) == en) = true := by simp [hen]
                clear hen
                by_cases had : a = d
                · obtain rfl : m = 0 := HSE.out had
                  have j1 : ((a : Int) == (d : Int)) = true := by simp [had]
                  clear had
                  go_wp2_with (go_at_call 23; refine HLN.out.mono ?_; rintro e Z ⟨rfl, hbZ⟩)
                  go_roundw
                  case rel => exact ⟨d + 1, by omega, by go_num, by rw [HC2.out]; rfl, by rw [HT3.out]; rfl, hb.trans (hbZ.mono hb.size)⟩
                  case measure => simp [intOf]; omega
                · have j1 : ((a : Int) == (d : Int)) = false := by simp; omega
                  go_wp2_with (go_at_call 23; refine HLN.out.mono ?_; rintro e Z ⟨rfl, hbZ⟩)
                  go_roundw
                  case rel => exact ⟨d + 1, by omega, by go_num, by rw [HC2.out]; go_num, by rw [HT3.out]; go_num, hb.trans (hbZ.mono hb.size)⟩
                  case measure => simp [intOf]; omega
              · have HT3 := Lib.hid (show tot V en (6 * a + (d + 1)) = tt by rw [HT2.out, if_neg hen]; rfl)
                have j9 : ((d : Int) == en) = false := by simp [hen]
                clear hen
                by_cases had : a = d
                · obtain rfl : m = 0 := HSE.out had
                  have j1 : ((a : Int) == (d : Int)) = true := by simp [had]
                  clear had
                  go_wp2_with (go_at_call 23; refine HLN.out.mono ?_; rintro e Z ⟨rfl, hbZ⟩)
                  go_roundw
                  case rel => exact ⟨d + 1, by omega, by go_num, by rw [HC2.out]; rfl, by rw [HT3.out], hb.trans (hbZ.mono hb.size)⟩
                  case measure => simp [intOf]; omega
                · have j1 : ((a : Int) == (d : Int)) = false := by simp; omega
                  go_wp2_with (go_at_call 23; refine HLN.out.mono ?_; rintro e Z ⟨rfl, hbZ⟩)
                  go_roundw
                  case rel => exact ⟨d + 1, by omega, by go_num, by rw [HC2.out]; go_num, by rw [HT3.out], hb.trans (hbZ.mono hb.size)⟩
                  case measure => simp [intOf]; omega
            · obtain rfl : d = 6 := by omega
              have e6 : 6 * a + 6 = 6 * (a + 1) := by omega
              rw [e6]
              clear e6 hd6 hltd
              obtain ⟨cc, hcc⟩ : ∃ z, cnt V (6 * (a + 1)) = z := ⟨_, rfl⟩
              obtain ⟨tt, htt⟩ : ∃ z, tot V en (6 * (a + 1)) = z := ⟨_, rfl⟩
              rw [hcc, htt]
              have HCC := Lib.hid hcc
              have HTT := Lib.hid htt
              clear hcc htt
              go_wp2
              go_roundw
              case rel => exact ⟨a + 1, by omega, by go_num, by rw [HCC.out], by rw [HTT.out], hb⟩
              case measure => simp [intOf]; omega
        · obtain rfl : a = 6 := by omega
          clear ha6 hlta
          have HTA := Lib.hid (tot_all HIN.out en)
          have HV := Lib.hid HM.out.few
          obtain ⟨cc, hcc⟩ : ∃ z, cnt V (6 * 6) = z := ⟨_, rfl⟩
          obtain ⟨tt, htt⟩ : ∃ z, tot V en (6 * 6) = z := ⟨_, rfl⟩
          have HCC := Lib.hid (show cc = V.length by rw [← hcc]; exact cnt_all HIN.out)
          have HTT := Lib.hid (show tt + (clear V en).length = V.length by rw [← htt]; exact HTA.out)
          rw [hcc, htt]
          clear hcc htt
          have hM6 := HM.out.below hb
          have HLE := Lib.hid (show Calls Try.prog 20 #[.pointer (some ⟨p, 0, none⟩)] wr fun e W' => e = .returned (.int .i64 (cc : Int)) ∧ Below wr.heap.size wr W' from by
            have := two_len hM6
            rw [← HCC.out] at this
            exact this)
          have hw6 := HB.out.trans (hb.mono HB.out.size)
          go_upto_region 28 with (go_at_call 20; refine HLE.out.mono ?_; rintro e Z ⟨rfl, hbZ⟩)
          have hMZ := hM6.below hbZ
          have hwZ := hw6.trans (hbZ.mono hw6.size)
          have HCR := Lib.hid (two_clear hMZ hwZ.size en)
          clear hM6 HLE hb hw6 hbZ
          go_upto_region 29 with (go_at_call 24; refine HCR.out.mono ?_; rintro e Z2 ⟨n1, rfl, k1, hn1, hM2⟩; obtain rfl : n1 = (tt : Int) := (by rw [hn1]; have := HTT.out; omega); clear hn1)
          have hw2 := Keep.below hwZ k1 hwZ.size hMZ.ge3
          clear hMZ hwZ k1 HCR
          go_wp2
          go_loopw [15] (fun z wy => ∃ a : Nat, 1 ≤ a ∧ a ≤ 5 ∧ z = .int .i64 (a : Int) ∧ Below Z2.heap.size Z2 wy) (fun z _ => (6 - intOf z).toNat)
          case atStart => exact ⟨1, by omega, by omega, rfl, Below.refl _ _⟩
          case round =>
            obtain ⟨a, ha1, ha5, rfl, hb⟩ := hrel
            have hMy := hM2.below hb
            by_cases hlta : a < 5
            · have haI : (a : Int) ≤ 4 := by omega
              have HLN := Lib.hid (show Calls Try.prog 23 #[.pointer (some ⟨p, 0, none⟩), .int .i64 (a : Int), .int .i64 en] wr fun e W' => e = .returned (.int .i64 0) ∧ Below wr.heap.size wr W' from by
                have := two_line hMy ((a : Int), en) (by unfold OkP; simp only; omega)
                rw [show lineOf (clear V en) ((a : Int), en) = [] by rw [clear_line, if_pos rfl]] at this
                exact this)
              clear hMy ha5
              go_wp2_with (go_at_call 23; refine HLN.out.mono ?_; rintro e Z ⟨rfl, hbZ⟩)
              go_roundw
              case rel => exact ⟨a + 1, by omega, by omega, by go_num, hb.trans (hbZ.mono hb.size)⟩
              case measure => simp [intOf]; omega
            · obtain rfl : a = 5 := by omega
              have hwy := hw2.trans (hb.mono hw2.size)
              have HLE := Lib.hid (show Calls Try.prog 20 #[.pointer (some ⟨p, 0, none⟩)] wr fun e W' => e = .returned (.int .i64 ((cc : Int) - (tt : Int))) ∧ Below wr.heap.size wr W' from by
                have := two_len hMy
                rw [show ((clear V en).length : Int) = (cc : Int) - (tt : Int) by have := HTT.out; have := HCC.out; omega] at this
                exact this)
              have hccI : (cc : Int) ≤ 16384 := by have := HCC.out; have := HV.out; omega
              have httI : (tt : Int) ≤ 16384 := by have := HTT.out; have := HV.out; omega
              clear hMy hM2 hb ha1 ha5 hlta
              go_wp2_with (first | (go_at_call 20; refine HLE.out.mono ?_; rintro e Z ⟨rfl, hbZ⟩) | (go_at_call 11; refine (nknown_any _).mono ?_; rintro e Z3 ⟨rfl, hb3⟩))
              go_ret
              exact ⟨by simp, (hwy.trans (hbZ.mono hwy.size)).trans (hb3.mono (hwy.trans (hbZ.mono hwy.size)).size)⟩
end Go.Proofs.Ytellbmghahgjfaa

/-
  event's readTo: to whom an event goes, read.
-/
import Derived.Test.YtigepbklpiilpaaEvRead
import Derived.Test.YtigepbklpiilpaaEvDe
import Derived.Test.YtigepbklpiilpaaKnown
namespace Go.Proofs.Ytigepbklpiilpaa
open Go.RowKit
open CtxM
set_option linter.unusedVariables false
set_option linter.unusedSimpArgs false
set_option maxRecDepth 20000

/-- So many dests. -/
def toO : Nat → Option (List UInt8) → Option (List De × List UInt8)
  | _, none => none
  | 0, some l => some ([], l)
  | n + 1, some l => (dotO (some l)).bind fun x => (blobO (some x.2)).bind fun y => (toO n (some y.2)).map fun r => ((x.1, ⟨y.1.toArray⟩) :: r.1, r.2)
theorem toO_succ (n : Nat) (l : List UInt8) : toO (n + 1) (some l) = (dotO (some l)).bind fun x => (blobO (some x.2)).bind fun y => (toO n (some y.2)).map fun r => ((x.1, ⟨y.1.toArray⟩) :: r.1, r.2) := rfl
theorem toO_none (n : Nat) : toO n none = none := by cases n <;> rfl
def tosO (o : Option (List UInt8)) : Option (List De × List UInt8) := match numO o with
  | none => none
  | some (n, l) => toO n (some l)
/-- What the rest of a reading makes of it. -/
def cont (acc : List De) (r : Option (List De × List UInt8)) : Option (List De × List UInt8) := r.map fun r => (acc ++ r.1, r.2)
theorem cont_nil (r : Option (List De × List UInt8)) : cont [] r = r := by cases r <;> simp [cont]
theorem toO_fail {n : Nat} {oi : Option (List UInt8)} (h : left (blobO (left (dotO oi))) = none) : toO (n + 1) oi = none := by
  match oi with
  | none => rfl
  | some l =>
    rw [toO_succ]
    cases hd : dotO (some l) with
    | none => rfl
    | some p =>
      obtain ⟨d, l1⟩ := p
      rw [hd] at h
      simp only [left, Option.map_some] at h
      simp only [Option.bind_some]
      cases hb : blobO (some l1) with
      | none => rfl
      | some q => rw [hb] at h; cases h
theorem toO_step {n : Nat} {oi : Option (List UInt8)} {l2 : List UInt8} {d : Dt} {p : List UInt8} (acc : List De) (h : left (blobO (left (dotO oi))) = some l2) (hd : ∀ x, dotO oi = some x → d = x.1) (hp : ∀ x, blobO (left (dotO oi)) = some x → p = x.1) :
    cont acc (toO (n + 1) oi) = cont (acc ++ [(d, ⟨p.toArray⟩)]) (toO n (some l2)) := by
  match oi with
  | none => cases h
  | some l =>
    rw [toO_succ]
    cases hd' : dotO (some l) with
    | none => rw [hd'] at h; cases h
    | some x =>
      obtain ⟨d', l1⟩ := x
      have e1 := hd _ hd'
      rw [hd'] at h hp
      simp only [left, Option.map_some] at h hp
      cases hb : blobO (some l1) with
      | none => rw [hb] at h; cases h
      | some q =>
        obtain ⟨b, l2'⟩ := q
        have e2 := hp _ hb
        rw [hb] at h
        simp only [Option.map_some] at h
        injection h with h
        subst h
        simp only at e1 e2
        subst e1 e2
        simp only [Option.bind_some, hb]
        generalize toO n (some l2') = z
        cases z <;> simp [cont]
theorem failed_any (g : Nat) (o : Option (List UInt8)) (w : World) (hr : Ro w g o) : Calls Try.prog 61 #[.pointer (some ⟨g, 0, none⟩)] w fun e w' => e = .returned (.bool o.isNone) ∧ w = w' := by
  cases o with
  | none => exact failed_yes g w hr
  | some l => exact failed_no g l w hr

def ToEnd (g : Nat) (o : Option (List UInt8)) (w : World) (e : Ending) (w' : World) : Prop := ∃ v T, e = .returned v ∧ OwnE w' w.heap.size v T ∧ (∀ p, tosO o = some p → T = p.1) ∧ Ro w' g (left (tosO o)) ∧ w.grownBy w' (some g)
theorem grown_past {w a b : World} {g : Nat} {v : Value} {T : List De} (h : w.grownBy a (some g)) (k : a.grownBy b v.ownBlock) (ho : OwnE a w.heap.size v T) : w.grownBy b (some g) :=
  ⟨k.os.trans h.os, k.tape.trans h.tape, k.output.trans h.output, Nat.le_trans h.size k.size, fun i hi hne => (k.block i (Nat.lt_of_lt_of_le hi h.size) (fun e => by have := (ho.lt i e.symm).1; omega)).trans (h.block i hi hne)⟩

/-- A reader is no part of a row of dests. -/
theorem Rd.row {w w' : World} {g base : Nat} {v : Value} {l : List UInt8} {T : List De} (h : Rd w g l) (ho : OwnE w base v T) (hg : w.grownBy w' v.ownBlock) : Rd w' g l := by
  have hne : ∀ k t cs, Blk w k t cs → t ≠ 55 → some k ≠ v.ownBlock := by
    intro k t cs hB ht e
    rcases ho.2 with ⟨rfl, _⟩ | ⟨g', cap, cur, rfl, _, hh, _⟩
    · cases e
    · injection e with e
      subst e
      unfold Blk at hB
      rw [hh] at hB
      injection hB with hB
      injection hB with _ h2
      exact ht h2.symm
  obtain ⟨A, c, hB, hc, ha⟩ := h
  refine ⟨A, c, hB.grown hg (hne _ _ _ hB (by decide)), hc, fun hn => ?_⟩
  obtain ⟨b, o, cs, e, hb, hx⟩ := ha hn
  exact ⟨b, o, cs, e, hb.grown hg (hne _ _ _ hb (by decide)), hx⟩

set_option maxHeartbeats 4000000 in
theorem readTo_any (g : Nat) (o : Option (List UInt8)) (w : World) (hr : Ro w g o) (hs : Small o) : Calls Try.prog 44 #[.pointer (some ⟨g, 0, none⟩)] w (ToEnd g o w) := by
  obtain ⟨i0, hi, hz0, hz1, hz2⟩ := info_parts info_dest
  have hgl := hr.lt
  go_enter Try.func44, Try.ntmps44
  go_wp2_with fail
  refine (pnum_any g o w hr hs).mono ?_
  rintro e w1 ⟨n, rfl, hn1, hn2, hn3, hr1, hg1⟩
  have hs1 := hs.num
  have HT : tosO o = toO n (left (numO o)) := by
    unfold tosO
    cases h : numO o with
    | none => simp only [left, Option.map_none]; rw [toO_none]
    | some p => obtain ⟨a, b⟩ := p; rw [hn1 _ h]; rfl
  have HTT := Lib.hid HT
  clear HT hn1 hn2 hr hs
  generalize left (numO o) = o0 at hr1 hs1 HTT
  go_wp2
  go_loopw [3, 7] (fun x z wr => ∃ (i : Nat) (acc : List De) (oi : Option (List UInt8)), z = .int .u64 (i : Int) ∧ i ≤ n ∧ OwnE wr w.heap.size x acc ∧ acc.length = i ∧ Ro wr g oi ∧ Small oi ∧ w.grownBy wr (some g) ∧ toO n o0 = cont acc (toO (n - i) oi)) (fun _ z _ => n - (intOf z).toNat)
  case atStart => exact ⟨0, [], o0, rfl, Nat.zero_le _, OwnE.nil, rfl, hr1, hs1, hg1, by rw [cont_nil]; rfl⟩
  case round =>
    clear hr1 hs1 hg1
    obtain ⟨i, acc, oi, rfl, hin, ho, hal, hr, hs, hg, hinv⟩ := hrel
    by_cases hlt : i < n
    · obtain ⟨m, hm⟩ : ∃ m, n - i = m + 1 := ⟨n - i - 1, by omega⟩
      rw [hm] at hinv
      have hd := pdot_any g oi wr hr hs
      have hsd := hs.dot
      have hsb := hsd.blob
      have HI := Lib.hid hinv
      have HMM := Lib.hid hm
      have HLT := Lib.hid hlt
      have HAL := Lib.hid hal
      obtain ⟨Ao, no, co, rfl⟩ : ∃ A n c, _ = Value.slice A n c := ho.se.shape.elim fun A h => h.elim fun c h => ⟨A, _, c, h⟩
      have HO := Lib.hid ho
      have HG := Lib.hid hg
      clear hinv hm hal ho hg hr
      cases hob : left (blobO (left (dotO oi))) with
      | none =>
        have HOB := Lib.hid hob
        clear hob
        go_wp2_with (first | (go_at_call 40; refine hd.mono ?_; rintro e w2 ⟨d, rfl, hd1, hr2, hg2⟩) | (go_at_call 41; refine (pblob_any g _ _ hr2 hsd).mono ?_; rintro e w3 ⟨v, p, rfl, hsl, hp1, hpl, hr3, hg3⟩; obtain ⟨A3, n3, c3, rfl⟩ := hsl.shape; have hcv := conv_any hsl; rw [HOB.out] at hr3) | (go_at_call 61; refine (failed_yes g _ (Fd.below hr3 ((Below.refl _ _).alloc (Nat.le_refl _) _))).mono ?_; rintro e w4 ⟨rfl, rfl⟩))
        go_ret
        have hgi := (hg2.trans hg3).trans (World.grownBy_alloc w3 (.cells #[.int .i64 d.1, .int .u64 (d.2 : Int), .string ⟨p.toArray⟩] 55) (some g))
        refine ⟨_, acc, rfl, HO.out.grown hgi hgl, fun p hp => ?_, ?_, HG.out.trans hgi⟩
        · rw [HTT.out, HI.out, toO_fail HOB.out] at hp; cases hp
        · rw [HTT.out, HI.out, toO_fail HOB.out]; exact Fd.below hr3 ((Below.refl _ _).alloc (Nat.le_refl _) _)
      | some l2 =>
        have HOB := Lib.hid hob
        have HSB := Lib.hid hsb
        clear hob hsb
        go_wp2_with (first | (go_at_call 40; refine hd.mono ?_; rintro e w2 ⟨d, rfl, hd1, hr2, hg2⟩) | (go_at_call 41; refine (pblob_any g _ _ hr2 hsd).mono ?_; rintro e w3 ⟨v, p, rfl, hsl, hp1, hpl, hr3, hg3⟩; obtain ⟨A3, n3, c3, rfl⟩ := hsl.shape; have hcv := conv_any hsl; rw [HOB.out] at hr3; have hgi := (hg2.trans hg3).trans (World.grownBy_alloc w3 (.cells #[.int .i64 d.1, .int .u64 (d.2 : Int), .string ⟨p.toArray⟩] 55) (some g)); have hB5 := Blk.new (w3.alloc (.cells #[.int .i64 d.1, .int .u64 (d.2 : Int), .string ⟨p.toArray⟩] 55)) 55 #[.int .i64 d.1, .int .u64 (d.2 : Int), .string ⟨p.toArray⟩]; rw [show (w3.alloc (.cells #[.int .i64 d.1, .int .u64 (d.2 : Int), .string ⟨p.toArray⟩] 55)).heap.size = w3.heap.size + 1 by simp] at hB5; have ho5 := (HO.out.grown hgi hgl).below ((Below.refl _ _).alloc (Nat.le_refl _) (.cells #[.int .i64 d.1, .int .u64 (d.2 : Int), .string ⟨p.toArray⟩] 55)); have hsz5 : w.heap.size ≤ ((w3.alloc (.cells #[.int .i64 d.1, .int .u64 (d.2 : Int), .string ⟨p.toArray⟩] 55)).alloc (.cells #[.int .i64 d.1, .int .u64 (d.2 : Int), .string ⟨p.toArray⟩] 55)).heap.size := (by have h5 := HG.out.size; have h6 := hgi.size; simp at h6 ⊢; omega)) | (go_at_call 61; refine (failed_no g l2 _ (Rd.below hr3 ((Below.refl _ _).alloc (Nat.le_refl _) _))).mono ?_; rintro e w4 ⟨rfl, rfl⟩) | (at_builtin; refine wpList_append_dests _ rfl _ _ 28 rfl w.heap.size i0 Try.underlying28 hi hz0 hz1 hz2 (.slice Ao no co) acc rfl ho5 _ [(d, ⟨p.toArray⟩)] rfl (Se.one (d, ⟨p.toArray⟩) hB5 1 (Nat.le_refl _)) (by simp) (by have := HAL.out; simp; omega) hsz5 ?_; intro v5 w5 ho6 hg6))
        refine ⟨⟨i + 1, acc ++ [(d, ⟨p.toArray⟩)], some l2, by go_num, by have := HLT.out; omega, ho6, by have := HAL.out; simp; omega, ?_, ?_, grown_past (HG.out.trans (hgi.trans (World.grownBy_alloc _ _ _))) hg6 ho5, ?_⟩, by simp [intOf]; have := HLT.out; omega⟩
        · exact (Rd.below hr3 (((Below.refl _ _).alloc (Nat.le_refl _) _).alloc (by simp) _)).row ho5 hg6
        · have := HSB.out; rw [HOB.out] at this; exact this
        · rw [HI.out, show n - (i + 1) = m by have := HMM.out; omega]
          exact toO_step acc HOB.out hd1 hp1
    · obtain rfl : i = n := by omega
      have HI := Lib.hid hinv
      have HO := Lib.hid ho
      have HG := Lib.hid hg
      have HR := Lib.hid hr
      clear hinv ho hg hr hal hs
      go_wp2
      go_ret
      have e1 : tosO o = cont acc (toO 0 oi) := by rw [HTT.out, HI.out, Nat.sub_self]
      refine ⟨_, acc, rfl, HO.out, fun p hp => ?_, ?_, HG.out⟩
      · rw [e1] at hp
        cases oi with
        | none => cases hp
        | some l => simp [toO, cont] at hp; rw [← hp]
      · rw [e1]
        cases oi with
        | none => exact HR.out
        | some l => simp [toO, cont, left]; exact HR.out
end Go.Proofs.Ytigepbklpiilpaa

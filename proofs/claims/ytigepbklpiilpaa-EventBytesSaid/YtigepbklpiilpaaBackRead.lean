/-
  Readings of what was put, one behind the other; what a reading leaves as it was.
-/
import Derived.Test.YtigepbklpiilpaaCutRead
import Derived.Test.YtigepbklpiilpaaUnhex
namespace Go.Proofs.Ytigepbklpiilpaa
open Go.RowKit
set_option linter.unusedVariables false

/-- Every cell outside block g holds in w' what it held in w. -/
def KB (g : Nat) (w w' : World) : Prop := ∀ (p : Addr) (u : Value), p.block ≠ g → w.cell? p = some u → w'.cell? p = some u
theorem KB.refl (g : Nat) (w : World) : KB g w w := fun _ _ _ h => h
theorem KB.trans {g : Nat} {a b c : World} (h : KB g a b) (k : KB g b c) : KB g a c := fun p u hp hu => k p u hp (h p u hp hu)
theorem KB.of_grown {g : Nat} {w w' : World} (h : w.grownBy w' (some g)) : KB g w w' := fun p u hp hu =>
  h.cell hu (fun e => hp (by injection e))
theorem KB.sl {g : Nat} {w w0 w' : World} {v : Value} {l : List UInt8} (h : Sl w0 v l) (hb : Below w0.heap.size w0 w) (hg : w0.heap.size ≤ g) (k : KB g w w') : Sl w' v l :=
  h.keep fun p u hu => by
    have hp := World.block_lt_of_cell? w0 p hu
    exact k p u (by omega) ((hb.cell hp).trans hu)
theorem Part.slKB {w w' : World} {g : Nat} {A : Option Addr} {p l : List UInt8} {n c : Nat} (h : Part w g A p l) (k : KB g w w') (hn : n = p.length) (hc : n ≤ c) : Sl w' (.slice A n c) p := by
  subst hn
  obtain ⟨A', c', hg, _, ha, _⟩ := h
  refine ⟨A, c, rfl, hc, fun hn => ?_⟩
  obtain ⟨b, o, cs, e, hB, hx⟩ := ha hn
  have hne : b ≠ g := hB.ne_ hg (by decide)
  exact ⟨b, o, e, fun j hj => k _ _ hne (by rw [hB.cell]; exact hx j hj)⟩
theorem KB.range {w w' : World} {g b o : Nat} {cs : List Value} (h : w.rangeAt b o cs) (hb : b ≠ g) (k : KB g w w') : w'.rangeAt b o cs := fun j v hv => k _ _ hb (h j v hv)

section
variable {P : Program} {ops : Array Oper} {Q : Exit → Act → World → Prop} {md : Region.Mode}
theorem heldB_begin (g : Nat) {id : Nat} {a : Act} {w : World} (hm : P.follows .mixedOrders = true) (h : wpAnyH P .any ops Q (KB g w.drew) ops.size (Array.replicate ops.size false) a w.drew) : (Code.region id ops true).wp P Q a w :=
  wp_region_held_drew (S := KB g w.drew) hm (KB.refl g _) (fun _ => h)
theorem heldB_next {g : Nat} {w w' : World} {fuel : Nat} {listed : Array Bool} {a : Act} (k : KB g w w') (h : wpAnyH P md ops Q (KB g w') fuel listed a w') : wpAnyH P md ops Q (KB g w) fuel listed a w' :=
  wpAnyH_more (fun _ hh => k.trans hh) _ _ _ _ h
end

theorem back_number (g n : Nat) (R : List UInt8) (w : World) (hr : Rd w g (beB 8 n ++ R)) (hn : n < 18446744073709551616) (hl : (beB 8 n ++ R).length ≤ 1000000) :
    Calls Try.prog 59 #[.pointer (some ⟨g, 0, none⟩), .int .i64 8] w fun e w' => e = .returned (.int .u64 (n : Int)) ∧ Rd w' g R ∧ w.grownBy w' (some g) := by
  have h8 := beB_length 8 n
  have h := number_ok g 8 _ w hr (by decide) (by decide) (by rw [List.length_append]; omega) hl
  rw [List.take_left' h8, List.drop_left' h8, beN_beB 8 n (by simpa using hn)] at h
  exact h
theorem back_blob (g : Nat) (l R : List UInt8) (w : World) (hr : Rd w g ((beB 2 l.length ++ l) ++ R)) (hn : l.length ≤ 65535) (hl : ((beB 2 l.length ++ l) ++ R).length ≤ 1000000) :
    Calls Try.prog 41 #[.pointer (some ⟨g, 0, none⟩)] w fun e w' => ∃ A, e = .returned (.slice A l.length l.length) ∧ Part w' g A l R ∧ w.grownBy w' (some g) := by
  have h2 := beB_length 2 l.length
  have hb := beN_beB 2 l.length (by omega)
  rw [List.append_assoc] at hr hl
  have h := rblob_ok g l.length _ w hr (by rw [List.length_append]; omega) (by rw [List.take_left' h2, hb]) (by rw [List.drop_left' h2, List.length_append]; omega) hl
  rw [List.drop_left' h2, List.take_left' rfl, List.drop_left' rfl] at h
  exact h
theorem back_dot (g k n : Nat) (R : List UInt8) (w : World) (hr : Rd w g ((beB 1 k ++ beB 8 n) ++ R)) (hk : k ≤ 255) (hn : n < 18446744073709551616) (hl : ((beB 1 k ++ beB 8 n) ++ R).length ≤ 1000000) :
    Calls Try.prog 40 #[.pointer (some ⟨g, 0, none⟩)] w fun e w' => e = .returned (.agg #[.int .i64 (k : Int), .int .u64 (n : Int)]) ∧ Rd w' g R ∧ w.grownBy w' (some g) := by
  have h9 : (beB 1 k ++ beB 8 n).length = 9 := by rw [List.length_append, beB_length, beB_length]
  have h := rdot_ok g _ (UInt8.ofNat (k % 256)) (beB 8 n) w hr (by rw [List.length_append]; omega) hl (by rw [List.take_left' h9, dot_bytes k n hk])
  rw [List.drop_left' h9, beN_beB 8 n (by simpa using hn), ofNat_mod_toNat, Nat.mod_eq_of_lt (by omega)] at h
  exact h
theorem back_vec (g : Nat) (cs : Array Value) (vec : List Nat) (R : List UInt8) (w : World) (hr : Rd w g (vecB vec ++ R)) (hv : Vec cs vec) (hl : (vecB vec ++ R).length ≤ 1000000) :
    Calls Try.prog 43 #[.pointer (some ⟨g, 0, none⟩)] w fun e w' => e = .returned (.agg cs) ∧ Rd w' g R ∧ w.grownBy w' (some g) := by
  have h128 : (vecB vec).length = 128 := by rw [vecB_length, hv.len]
  have h := rvec_ok g _ w hr (by rw [List.length_append]; omega) hl
  rw [List.take_left' h128, List.drop_left' h128, vecN_vecB cs vec hv] at h
  exact h.mono fun e w' ⟨C, he, hC, hR, hg⟩ => ⟨by rw [he, hC.uniq hv], hR, hg⟩
theorem back_bytes (g : Nat) (l : List UInt8) (w : World) (hr : Rd w g l) (hl : l.length ≤ 1000000) :
    Calls Try.prog 58 #[.pointer (some ⟨g, 0, none⟩), .int .i64 (l.length : Int)] w fun e w' => ∃ A, e = .returned (.slice A l.length l.length) ∧ Part w' g A l [] ∧ w.grownBy w' (some g) := by
  have h := bytes_ok g l.length l w hr (Nat.le_refl _) hl
  rw [List.take_length, List.drop_length] at h
  exact h
theorem back_end (g : Nat) (w : World) (hr : Rd w g []) : Calls Try.prog 45 #[.pointer (some ⟨g, 0, none⟩)] w fun e w' => e = .returned (.int .i64 0) ∧ w = w' := by
  have h := end_no g [] w hr
  rw [if_pos rfl] at h
  exact h

/-- A text's bytes are what it was told of. -/
theorem hv_dig : ∀ i : Fin 16, hv (dig i.val) = some i.val := by decide +kernel
theorem hexB_get (l : List UInt8) (i : Nat) (h : i < l.length) : (hexB l).getD (2 * i) 0 = dig (l[i].toNat / 16) ∧ (hexB l).getD (2 * i + 1) 0 = dig (l[i].toNat % 16) := by
  induction l generalizing i with
  | nil => simp at h
  | cons c l ih =>
    have e : hexB (c :: l) = dig (c.toNat / 16) :: dig (c.toNat % 16) :: hexB l := by simp [hexB]
    rw [e]
    match i with
    | 0 => exact ⟨rfl, rfl⟩
    | i + 1 =>
      have := ih i (by simpa using h)
      rw [show 2 * (i + 1) = 2 * i + 1 + 1 by omega]
      simpa using this
theorem pr_hex (l : List UInt8) (i : Nat) (h : i < l.length) : pr (hexB l) i = some l[i] := by
  obtain ⟨h1, h2⟩ := hexB_get l i h
  have hc : l[i].toNat < 256 := l[i].toNat_lt
  unfold pr
  rw [h1, h2, hv_dig ⟨l[i].toNat / 16, by omega⟩, hv_dig ⟨l[i].toNat % 16, by omega⟩]
  simp only []
  congr 1
  rw [show 16 * (l[i].toNat / 16) + l[i].toNat % 16 = l[i].toNat by omega]
  simp
theorem unhexTo_hex (l : List UInt8) : ∀ i, i ≤ l.length → unhexTo (hexB l) i = some (l.take i)
  | 0, _ => by simp [unhexTo]
  | i + 1, h => by
    unfold unhexTo
    rw [unhexTo_hex l i (by omega), pr_hex l i (by omega)]
    simp only []
    rw [take_snoc l i (by omega)]
theorem unhex_hex (l : List UInt8) : unhexB (hexB l) = some l := by
  have hl := hexB_length l
  unfold unhexB
  rw [if_pos (by omega), show (hexB l).length / 2 = l.length by omega, unhexTo_hex l _ (Nat.le_refl _), List.take_length]
end Go.Proofs.Ytigepbklpiilpaa

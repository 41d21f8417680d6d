/-
  A hash's text is read as it; hashes compared; a slice's rest.
-/
import Derived.Test.YthlopecllhdmhaaDoorShaOf
import Derived.ChangeKeysEq
namespace Go.Proofs.YthlopecllhdmhaaDoor
open Go.RowKit
set_option linter.unusedVariables false
set_option linter.unusedSimpArgs false

/-- A text's bytes are what it was told of. -/
theorem hv_dig : ∀ i : Fin 16, hv (dig i.val) = some i.val := by decide +kernel
theorem hexB_get (l : List UInt8) (i : Nat) (h : i < l.length) : (hexB l).getD (2 * i) 0 = dig (l[i].toNat / 16) ∧ (hexB l).getD (2 * i + 1) 0 = dig (l[i].toNat % 16) := by
  induction l generalizing i with
  | nil => simp at h
  | cons c l ih =>
    have e : hexB (c :: l) = dig (c.toNat / 16) :: dig (c.toNat % 16) :: hexB l := by simp [hexB]
    rw [e]
    match i with
    | 0 => exact ⟨rfl, rfl⟩
    | i + 1 =>
      have := ih i (by simpa using h)
      rw [show 2 * (i + 1) = 2 * i + 1 + 1 by omega]
      simpa using this
theorem pr_hex (l : List UInt8) (i : Nat) (h : i < l.length) : pr (hexB l) i = some l[i] := by
  obtain ⟨h1, h2⟩ := hexB_get l i h
  have hc : l[i].toNat < 256 := l[i].toNat_lt
  unfold pr
  rw [h1, h2, hv_dig ⟨l[i].toNat / 16, by omega⟩, hv_dig ⟨l[i].toNat % 16, by omega⟩]
  simp only []
  congr 1
  rw [show 16 * (l[i].toNat / 16) + l[i].toNat % 16 = l[i].toNat by omega]
  simp
theorem unhexTo_hex (l : List UInt8) : ∀ i, i ≤ l.length → unhexTo (hexB l) i = some (l.take i)
  | 0, _ => by simp [unhexTo]
  | i + 1, h => by
    unfold unhexTo
    rw [unhexTo_hex l i (by omega), pr_hex l i (by omega)]
    simp only []
    rw [take_snoc l i (by omega)]
theorem unhex_hex (l : List UInt8) : unhexB (hexB l) = some l := by
  have hl := hexB_length l
  unfold unhexB
  rw [if_pos (by omega), show (hexB l).length / 2 = l.length by omega, unhexTo_hex l _ (Nat.le_refl _), List.take_length]
theorem ofB_hex (l : List UInt8) (hl : l.length = 32) : ofB (hexB l) = some l := by
  rw [ofB_unhex, unhex_hex]; simp [hl]

theorem eqItems_rowB (d : Nat) (a b : List UInt8) (h : a.length = b.length) (w : World) : ∀ is : List Nat, (∀ i ∈ is, i < a.length) →
    (Op.eqItems (d + 1) 5 1 (rowB a) (rowB b) is).run Tryd.prog w = .ok (is.all fun i => a.getD i 0 == b.getD i 0) w
  | [], _ => by simp [Op.eqItems]
  | i :: is, hi => by
    have hlt : i < a.length := hi i (by simp)
    have pa : (part 5 (rowB a) (i * 1)).run Tryd.prog w = .ok (.int .u8 (a[i].toNat : Int)) w := by
      rw [Nat.mul_one]; simp [part, rowB_get a i hlt]
    have pb : (part 5 (rowB b) (i * 1)).run Tryd.prog w = .ok (.int .u8 ((b[i]'(by omega)).toNat : Int)) w := by
      rw [Nat.mul_one]; simp [part, rowB_get b i (by omega)]
    have ea : a.getD i 0 = a[i] := by simp [List.getD_eq_getElem?_getD, List.getElem?_eq_getElem hlt]
    have eb : b.getD i 0 = b[i]'(by omega) := by simp [List.getD_eq_getElem?_getD, List.getElem?_eq_getElem (show i < b.length by omega)]
    have ee : ((a[i].toNat : Int) == ((b[i]'(by omega)).toNat : Int)) = (a[i] == b[i]'(by omega)) := by
      rw [Bool.eq_iff_iff, beq_iff_eq, beq_iff_eq]
      exact ⟨fun h => UInt8.toNat_inj.1 (by omega), fun h => by rw [h]⟩
    have ih := eqItems_rowB d a b h w is (fun j hj => hi j (by simp [hj]))
    simp only [Op.eqItems, Sem.run_bind, pa, pb, Result.andThen_ok, run_equalIn_int w d 5 .u8 .u8 _ _ Tryd.underlying5, List.all_cons, ea, eb, ee]
    cases hx : (a[i] == b[i]'(by omega))
    · simp
    · simp [ih]
theorem cells_u8' : Tryd.prog.cellsOf 5 = 1 := by kernel_rfl
theorem all_eq (a b : List UInt8) (n : Nat) (ha : a.length = n) (hb : b.length = n) : ((List.range n).all fun i => a.getD i 0 == b.getD i 0) = decide (a = b) := by
  rw [Bool.eq_iff_iff, List.all_eq_true, decide_eq_true_iff]
  constructor
  · intro h
    apply List.ext_getElem (by omega)
    intro i h1 h2
    have := h i (by simp; omega)
    simpa [List.getD_eq_getElem?_getD, List.getElem?_eq_getElem h1, List.getElem?_eq_getElem h2] using this
  · rintro rfl i _
    simp
/-- Two hashes compared. -/
theorem hash_eq (a b : List UInt8) (ha : a.length = 32) (hb : b.length = 32) (w : World) : (Op.equalIn 10000 45 (.agg (rowB a)) (.agg (rowB b))).run Tryd.prog w = .ok (decide (a = b)) w := by
  obtain ⟨i0, hi, _⟩ := info_parts info_u8
  rw [run_equalIn_array w 9999 (rowB a) (rowB b) Tryd.underlying45 hi, cells_u8', eqItems_rowB 9998 a b (by omega) w _ (fun i hi => by simp at hi; omega), all_eq a b 32 ha hb]
theorem hash_self (a : List UInt8) (ha : a.length = 32) (w : World) : (Op.equalIn 10000 45 (.agg (rowB a)) (.agg (rowB a))).run Tryd.prog w = .ok true w := by
  rw [hash_eq a a ha ha w]; simp

/-- What a slice holds behind a place. -/
theorem Sl.behind {w : World} {A A' : Option Addr} {n c : Nat} {l : List UInt8} (h : Sl w (.slice A n c) l) (m : Nat) (hm : m ≤ n) (hA : ∀ b o, A = some ⟨b, o, none⟩ → c ≠ m → A' = some ⟨b, o + m, none⟩) (n' c' : Nat) (hn' : n' = n - m) (hc' : c' = c - m) : Sl w (.slice A' n' c') (l.drop m) := by
  have hn := h.len
  subst hn
  obtain ⟨A2, c2, e, hc, ha⟩ := h
  injection e with e1 e2 e3
  subst e1 e3 hn' hc'
  clear e2
  have hd : (l.drop m).length = l.length - m := List.length_drop
  refine ⟨A', c - m, by rw [hd], by omega, fun h0 => ?_⟩
  have h1 : 0 < l.length := by clear ha; omega
  have hcm : c ≠ m := by clear ha; omega
  obtain ⟨b, o, rfl, hx⟩ := ha h1
  clear ha
  obtain rfl : A' = some ⟨b, o + m, none⟩ := hA b o rfl hcm
  refine ⟨b, o + m, rfl, fun j hj => ?_⟩
  have hj' : m + j < l.length := by clear hx; omega
  rw [Nat.add_assoc, hx (m + j) hj', List.getElem_drop]

theorem equal_any (a b : List UInt8) (ha : a.length = 32) (hb : b.length = 32) (w : World) : Calls Tryd.prog 30 #[.agg (rowB a), .agg (rowB b)] w fun e w' => e = .returned (.bool (decide (a = b))) ∧ Below w.heap.size w w' := by
  have he := hash_eq a b ha hb
  have hia := rowB_info ha
  have hib := rowB_info hb
  have hB0 := (Blk.new w 45 (rowB a)).alloc (.cells (rowB b) 45)
  have hB1 := Blk.new (w.alloc (.cells (rowB a) 45)) 45 (rowB b)
  rw [show (w.alloc (.cells (rowB a) 45)).heap.size = w.heap.size + 1 by simp] at hB1
  have hbw : Below w.heap.size w ((w.alloc (.cells (rowB a) 45)).alloc (.cells (rowB b) 45)) := ((Below.refl _ _).alloc (Nat.le_refl _) _).alloc (by simp) _
  generalize decide (a = b) = r at he
  generalize rowB a = A at *
  generalize rowB b = B at *
  go_enter Tryd.func30, Tryd.ntmps30
  go_upto_region 1 with (fail)
  generalize (w.alloc (.cells A 45)).alloc (.cells B 45) = W at hB0 hB1 hbw ⊢
  go_wp2_with (first | (refine wpList_load_row rfl 45 _ rfl w.heap.size rfl 45 A (0, 0) _ hB0 Tryd.underlying45 rfl hia ?_) | (refine wpList_load_row rfl 45 _ rfl (w.heap.size + 1) rfl 45 B (0, 0) _ hB1 Tryd.underlying45 rfl hib ?_))
  go_ret
  exact ⟨rfl, hbw⟩
end Go.Proofs.YthlopecllhdmhaaDoor

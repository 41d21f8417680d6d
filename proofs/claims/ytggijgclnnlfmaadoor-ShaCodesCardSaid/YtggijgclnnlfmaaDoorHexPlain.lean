/-
  Texts of bytes, and bytes of texts: what is no walk of the program's own functions; strings.IndexByte over the digits.
-/
import Derived.Test.YtggijgclnnlfmaaDoorShaKnown
import Derived.Test.YtggijgclnnlfmaaDoorHeld
import Derived.Lib.Bytealg
import Derived.Laws.IdiomStrings
import Derived.WalkMore
import Derived.Laws.BitsAllLaws
import Derived.Deep.LoopGhost
namespace Go.Proofs.YtggijgclnnlfmaaDoor
open Go.RowKit
set_option linter.unusedVariables false

section
variable {P : Program} (w : World)
theorem run_append_bytes2 (base : Nat) (t ty e : TypeId) (i : TypeInfo) (ht : P.underlying t = some (.slice e)) (hi : P.info? e = some i) (hz : i.zero = some (.int .u8 0))
    (hsize : i.size = 1) (hby : i.bytes = 1) (v : Value) (l : List UInt8) (hown : Own w base e v l)
    (v2 : Value) (m : List UInt8) (hm : Sl w v2 m) (hlen : l.length + m.length ≤ 1000000000) (hbase : base ≤ w.heap.size) :
    ∃ v' w', (Builtin.append_ #[t, t] ty #[v, v2]).run P w = .ok v' w' ∧ Own w' base e v' (l ++ m) ∧ w.grownBy w' v.ownBlock := by
  obtain ⟨A, c, rfl, hc, ha⟩ := hm
  rcases A with _ | ad
  · have h0 : m = [] := by
      rcases Nat.eq_zero_or_pos m.length with h0 | h0
      · exact List.eq_nil_of_length_eq_zero h0
      · obtain ⟨b, o, h, _⟩ := ha h0
        cases h
    subst h0
    exact ⟨v, w, run_append_of_nil w base t ty e i 1 ht hi v _ _ hown c, by rw [List.append_nil]; exact hown, World.grownBy.refl w _⟩
  · have hcells : ∀ j u, (m.map bv)[j]? = some u → w.cell? (ad.add j) = some u := by
      intro j u hu
      have hj : j < m.length := by
        have := (List.getElem?_eq_some_iff.1 hu).1
        simpa using this
      obtain ⟨b, o, h, hx⟩ := ha (by omega)
      injection h with h
      subst h
      rw [add_plain, hx j hj, ← hu]
      simp [List.getElem?_eq_getElem hj, bv]
    obtain ⟨v', w', hrun, h2, h3, _, _⟩ := run_append_own_at (P := P) w base t ty e i (.int .u8 0) 1 1 ht hi hz hsize hby rfl (by decide) v l.length (l.map bv) hown ad m.length c (m.map bv) (by simp) hcells
      (by intro u hu; obtain ⟨c, _, rfl⟩ := List.mem_map.1 hu; rfl) (by unfold maxLen; omega) (by omega) hbase
    exact ⟨v', w', hrun, by unfold Own; rw [List.length_append, List.map_append]; exact h2, h3⟩
theorem step_append_bytes2 {ops : Array Oper} {o : Oper} {a : Act} {K : Act → World → Prop} {Q : Exit → Act → World → Prop} {E : Prop} (hgd : o.guard = none) (s x : Operand) (t : TypeId)
    (ho : o.op = .call { callee := .builtin .append, args := #[s, x], argTypes := #[t, t] })
    (base : Nat) (e : TypeId) (i : TypeInfo) (ht : P.underlying t = some (.slice e)) (hi : P.info? e = some i) (hz : i.zero = some (.int .u8 0))
    (hsize : i.size = 1) (hby : i.bytes = 1) (v : Value) (l : List UInt8) (hs : a.eval s = v) (hown : Own w base e v l)
    (v2 : Value) (m : List UInt8) (hx : a.eval x = v2) (hm : Sl w v2 m) (hlen : l.length + m.length ≤ 1000000000) (hbase : base ≤ w.heap.size)
    (h : ∀ v' w', Own w' base e v' (l ++ m) → w.grownBy w' v.ownBlock → K (a.put o.dst v') w') : if Region.wanted o (yielded ops a.tmps) = true then Oper.wp P o a w K Q else E := by
  have hw : Region.wanted o (yielded ops a.tmps) = true := by simp [Region.wanted, hgd]
  rw [if_pos hw]
  obtain ⟨v', w', hr, h2, h3⟩ := run_append_bytes2 (P := P) w base t o.type e i ht hi hz hsize hby v l hown v2 m hm hlen hbase
  unfold Oper.wp execOp
  simp only [ho, resolve, invoke, builtin, Sem.run_bind, Sem.run_pure, Result.andThen_ok, List.map_toArray, List.map_cons, List.map_nil, hs, hx, hr]
  exact h v' w' h2 h3
end

/-- A row of the call's own lies below the heap's end. -/
theorem Own.lt {w : World} {base : Nat} {e : TypeId} {v : Value} {l : List UInt8} (h : Own w base e v l) : ∀ k, v.ownBlock = some k → base ≤ k ∧ k < w.heap.size := World.ownsRow.lt h
/-- A row from 'base' on is left by what turns a block below 'base' alone. -/
theorem Own.grown {w w' : World} {base : Nat} {e : TypeId} {v : Value} {l : List UInt8} {row : Option Nat} (h : Own w base e v l) (hgr : w.grownBy w' row) (hne : ∀ k, row = some k → k < base) : Own w' base e v l := by
  refine ⟨h.1, ?_⟩
  rcases h.2 with h2 | ⟨g, cap, cur, hv, hg, hh, r⟩
  · exact Or.inl h2
  · have hlt : g < w.heap.size := by
      rcases Nat.lt_or_ge g w.heap.size with hlt | hge
      · exact hlt
      · rw [Array.getElem?_eq_none hge] at hh; cases hh
    exact Or.inr ⟨g, cap, cur, hv, hg, (hgr.block g hlt (fun e => by have := hne g e.symm; omega)).trans hh, r⟩


/-- A string made of a slice of bytes, in the seat's program. -/
theorem conv_any {w : World} {v : Value} {l : List UInt8} (h : Sl w v l) : (convert 25 9 v).run Tryd.prog w = .ok (.string ⟨l.toArray⟩) w :=
  h.conv Tryd.underlying25 Tryd.underlying5 Tryd.underlying9
/-- The sixteen digits. -/
def digits : List UInt8 := [48, 49, 50, 51, 52, 53, 54, 55, 56, 57, 97, 98, 99, 100, 101, 102]
def dig (i : Nat) : UInt8 := digits.getD i 0
/-- A text of bytes. -/
def hexB (l : List UInt8) : List UInt8 := l.flatMap (fun c => [dig (c.toNat / 16), dig (c.toNat % 16)])
theorem hexB_take (l : List UInt8) (k : Nat) (h : k < l.length) : hexB (l.take (k + 1)) = hexB (l.take k) ++ [dig (l[k].toNat / 16), dig (l[k].toNat % 16)] := by
  unfold hexB
  rw [take_snoc l k h, List.flatMap_append]; simp
theorem hexB_length (l : List UInt8) : (hexB l).length = 2 * l.length := by
  induction l with
  | nil => rfl
  | cons c l ih => simp only [hexB, List.flatMap_cons, List.length_append, List.length_cons] at *; simp only [List.length_nil]; omega
theorem sixteen {i : Nat} (h : i < 16) : i = 0 ∨ i = 1 ∨ i = 2 ∨ i = 3 ∨ i = 4 ∨ i = 5 ∨ i = 6 ∨ i = 7 ∨ i = 8 ∨ i = 9 ∨ i = 10 ∨ i = 11 ∨ i = 12 ∨ i = 13 ∨ i = 14 ∨ i = 15 := by omega
theorem bits_low (c : UInt8) : bits BinOp.and IntKind.u8 (c.toNat : Int) 15 = ((c.toNat % 16 : Nat) : Int) := by
  have h : ∀ n : Fin 256, bits BinOp.and IntKind.u8 ((n.val : Nat) : Int) 15 = ((n.val % 16 : Nat) : Int) := by decide +kernel
  exact h ⟨c.toNat, c.toNat_lt⟩
theorem byte_div (c : UInt8) : c.toNat / 16 < 16 := by have := c.toNat_lt; omega
theorem byte_mod (c : UInt8) : c.toNat % 16 < 16 := Nat.mod_lt _ (by decide)
/-- A new block of two bytes, as a slice. -/
theorem Sl.two (w : World) (e : TypeId) (x y : UInt8) : Sl (w.alloc (.cells #[.int .u8 (x.toNat : Int), .int .u8 (y.toNat : Int)] e)) (.slice (some ⟨w.heap.size, 0, none⟩) 2 2) [x, y] :=
  Sl.of_mark w e _ (0, 0) [x, y] 2 2 rfl (Nat.le_refl _) rfl
theorem Own.made (w : World) (e : TypeId) (n : Nat) (hn : n ≤ 1000000) : Own (w.alloc (.cells (madeCells #[.int .u8 0] n) e)) w.heap.size e (.slice (some ⟨w.heap.size, 0, none⟩) 0 n) [] :=
  World.ownsRow_made w _ n (Nat.le_refl _) (by unfold maxLen; omega) (by simp [madeCells])

/-- A digit's number. -/
def hv (c : UInt8) : Option Nat := if 48 ≤ c.toNat ∧ c.toNat ≤ 57 then some (c.toNat - 48) else if 97 ≤ c.toNat ∧ c.toNat ≤ 102 then some (c.toNat - 87) else none
theorem hv_lt {c : UInt8} {x : Nat} (h : hv c = some x) : x < 16 := by
  unfold hv at h
  split at h
  · injection h; omega
  · split at h
    · injection h; omega
    · cases h
theorem index_digits (c : UInt8) : Lib.indexByte digits c = match hv c with | some x => (x : Int) | none => -1 := by
  have h : ∀ n : Fin 256, Lib.indexByte digits (UInt8.ofNat n.val) = match hv (UInt8.ofNat n.val) with | some x => (x : Int) | none => -1 := by decide +kernel
  have := h ⟨c.toNat, c.toNat_lt⟩
  simpa using this

theorem slite_any (s : ByteArray) (c : Int) (w : World) :
    Calls Tryd.prog 44 #[.string s, .int .u8 c] w fun e w' => e = .returned (.int .i64 (Lib.indexByte s.data.toList c.toNat.toUInt8)) ∧ w = w' := by
  go_enter Tryd.func44, Tryd.ntmps44
  go_wp2
  rw [run_callFunc_extern Tryd.func49 (by kernel_rfl) (by kernel_rfl) (by kernel_rfl) (e := Extern.BytealgIndexByte.indexByte) (by kernel_rfl), Lib.run_indexByteString]
  simp only [Result.andThen]
  rw [Oper.upon_value]
  go_wp2
  go_ret
  exact ⟨rfl, rfl⟩
/-- strings.IndexByte over the digits. -/
theorem digit_at (c : UInt8) (w : World) :
    Calls Tryd.prog 34 #[.string ⟨#[48, 49, 50, 51, 52, 53, 54, 55, 56, 57, 97, 98, 99, 100, 101, 102]⟩, .int .u8 (c.toNat : Int)] w fun e w' => e = .returned (.int .i64 (Lib.indexByte digits c)) ∧ w = w' := by
  have E := Lib.hid (show ((c.toNat : Int)).toNat.toUInt8 = c by simp)
  go_enter Tryd.func34, Tryd.ntmps34
  go_wp2_with fail
  refine (slite_any _ _ _).mono ?_
  rintro e w' ⟨rfl, rfl⟩
  rw [E.out, show (⟨#[48, 49, 50, 51, 52, 53, 54, 55, 56, 57, 97, 98, 99, 100, 101, 102]⟩ : ByteArray).data.toList = digits from rfl]
  go_wp2
  go_ret
  exact ⟨rfl, rfl⟩

/-- A pair of digits, as a byte. -/
def pr (l : List UInt8) (i : Nat) : Option UInt8 :=
  match hv (l.getD (2 * i) 0), hv (l.getD (2 * i + 1) 0) with
  | some x, some y => some (UInt8.ofNat (16 * x + y))
  | _, _ => none
/-- The bytes that the first pairs of a text say. -/
def unhexTo (l : List UInt8) : Nat → Option (List UInt8)
  | 0 => some []
  | i + 1 => match unhexTo l i, pr l i with
    | some m, some c => some (m ++ [c])
    | _, _ => none
/-- The bytes whose text it is. -/
def unhexB (l : List UInt8) : Option (List UInt8) := if l.length % 2 = 0 then unhexTo l (l.length / 2) else none
theorem unhexTo_length (l : List UInt8) : ∀ (i : Nat) (m : List UInt8), unhexTo l i = some m → m.length = i
  | 0, m, h => by simp [unhexTo] at h; simp [← h]
  | i + 1, m, h => by
    unfold unhexTo at h
    split at h
    · rename_i m' c h1 h2
      injection h with h
      rw [← h, List.length_append, unhexTo_length l i m' h1]; rfl
    · cases h
theorem unhexTo_none (l : List UInt8) (i : Nat) (h : unhexTo l i = none) : ∀ j, i ≤ j → unhexTo l j = none
  | 0, hj => by obtain rfl : i = 0 := by omega
                exact h
  | j + 1, hj => by
    by_cases e : i = j + 1
    · subst e; exact h
    · unfold unhexTo
      rw [unhexTo_none l i h j (by omega)]
theorem unhexTo_pr_none (l : List UInt8) (i : Nat) (h : pr l i = none) (j : Nat) (hj : i < j) : unhexTo l j = none := by
  refine unhexTo_none l (i + 1) ?_ j hj
  unfold unhexTo
  rw [h]
  cases unhexTo l i <;> rfl

/-- A pair's number behind so many of its digits. -/
def cj (l : List UInt8) (i : Nat) : Nat → Option Nat
  | 0 => some 0
  | 1 => hv (l.getD (2 * i) 0)
  | _ => match hv (l.getD (2 * i) 0), hv (l.getD (2 * i + 1) 0) with
    | some x, some y => some (16 * x + y)
    | _, _ => none
theorem cj_step (l : List UInt8) (i j x y : Nat) (hj : j < 2) (hx : cj l i j = some x) (hy : hv (l.getD (2 * i + j) 0) = some y) : cj l i (j + 1) = some (16 * x + y) ∧ x < 16 ∧ y < 16 := by
  match j, hj with
  | 0, _ =>
    simp only [cj] at hx ⊢
    injection hx with hx
    subst hx
    exact ⟨by simpa using hy, by decide, hv_lt hy⟩
  | 1, _ =>
    simp only [cj] at hx ⊢
    rw [hx, hy]
    exact ⟨rfl, hv_lt hx, hv_lt hy⟩
theorem cj_none (l : List UInt8) (i j : Nat) (hj : j < 2) (hy : hv (l.getD (2 * i + j) 0) = none) : pr l i = none := by
  unfold pr
  match j, hj with
  | 0, _ => rw [Nat.add_zero] at hy; rw [hy]
  | 1, _ => rw [hy]; cases hv (l.getD (2 * i) 0) <;> rfl
theorem cj_pr (l : List UInt8) (i x : Nat) (h : cj l i 2 = some x) : pr l i = some (UInt8.ofNat x) := by
  simp only [cj] at h
  unfold pr
  cases h1 : hv (l.getD (2 * i) 0) with
  | none => rw [h1] at h; cases h
  | some a =>
    cases h2 : hv (l.getD (2 * i + 1) 0) with
    | none => rw [h1, h2] at h; cases h
    | some b =>
      rw [h1, h2] at h
      injection h with h
      rw [← h]
theorem cj_lt (l : List UInt8) (i j x : Nat) (hj : j ≤ 2) (h : cj l i j = some x) : x < 256 := by
  match j, hj with
  | 0, _ => simp only [cj] at h; injection h with h; omega
  | 1, _ => simp only [cj] at h; have := hv_lt h; omega
  | 2, _ =>
    simp only [cj] at h
    split at h
    · rename_i h1 h2
      injection h with h
      have := hv_lt h1
      have := hv_lt h2
      omega
    · cases h
/-- 'b << 4 | half'. -/
theorem or_half (x y : Nat) (hx : x < 16) (hy : y < 16) : bits .or .u8 ((x : Int) * 16) (y : Int) = ((16 * x + y : Nat) : Int) := by
  have h : ∀ (a b : Fin 16), bits .or .u8 (((a.val : Nat) : Int) * 16) ((b.val : Nat) : Int) = ((16 * a.val + b.val : Nat) : Int) := by decide +kernel
  exact h ⟨x, hx⟩ ⟨y, hy⟩
/-- A row: bytes, one that is being made, and noughts. -/
def rowA (m : List UInt8) (x r : Nat) : Array Value := ((m ++ UInt8.ofNat x :: List.replicate r 0).map bv).toArray
theorem rowA_get (m : List UInt8) (x r : Nat) (hx : x < 256) : (rowA m x r)[m.length]? = some (.int .u8 (x : Int)) := by
  have e : (UInt8.ofNat x).toNat = x := by rw [UInt8.toNat_ofNat']; exact Nat.mod_eq_of_lt hx
  simp [rowA, bv, e]
theorem rowA_set (m : List UInt8) (x y r : Nat) (hy : y < 256) : (rowA m x r).setIfInBounds m.length (.int .u8 (y : Int)) = rowA m y r := by
  have e : (UInt8.ofNat y).toNat = y := by rw [UInt8.toNat_ofNat']; exact Nat.mod_eq_of_lt hy
  apply Array.toList_inj.1
  simp [rowA, bv, e]
/-- A row: bytes, and noughts. -/
def rowK (m : List UInt8) (r : Nat) : Array Value := ((m ++ List.replicate r 0).map bv).toArray
theorem rowK_succ (m : List UInt8) (r : Nat) : rowK m (r + 1) = rowA m 0 r := by simp [rowA, rowK, List.replicate_succ]
theorem rowA_next (m : List UInt8) (x r : Nat) : rowA m x r = rowK (m ++ [UInt8.ofNat x]) r := by simp [rowA, rowK]
theorem rowK_made (n : Nat) : madeCells #[.int .u8 0] n = rowK [] n := by
  apply Array.ext_getElem?
  intro j
  by_cases hj : j < n
  · simp [madeCells, rowK, bv, hj, Nat.mod_one]
  · rw [Array.getElem?_eq_none (by simp [madeCells]; omega), Array.getElem?_eq_none (by simp [rowK]; omega)]
theorem Blk.rowK_sl {w : World} {g : Nat} {m : List UInt8} (h : Blk w g 5 (rowK m 0)) (n : Nat) (hn : n = m.length) : Sl w (.slice (some ⟨g, 0, none⟩) n n) m := by
  subst hn
  refine ⟨_, _, rfl, Nat.le_refl _, fun _ => ⟨g, 0, rfl, fun j hj => ?_⟩⟩
  rw [Nat.zero_add, h.cell j]
  simp [rowK, bv, List.getElem?_eq_getElem hj]

/-- A pair of a text's bytes, as new memory. -/
theorem conv_pair (s : ByteArray) (k : Nat) (w : World) (h : 2 * k + 2 ≤ s.size) :
    ∃ C W, (convert 9 25 (.string (s.extract (2 * k) (2 * k + 2)))).run Tryd.prog w = .ok (.slice (some ⟨w.heap.size, 0, none⟩) 2 C) W ∧ 2 ≤ C ∧
      (∀ j, j < 2 → W.cell? ⟨w.heap.size, j, none⟩ = some (.int .u8 ((s.data.toList.getD (2 * k + j) 0).toNat : Int))) ∧ Below w.heap.size w W ∧ w.heap.size < W.heap.size := by
  have hsz : (s.extract (2 * k) (2 * k + 2)).size = 2 := by rw [ByteArray.size_extract]; omega
  have hr := run_bytes_of_string (P := Tryd.prog) w 9 25 5 (s.extract (2 * k) (2 * k + 2)) Tryd.underlying9 Tryd.underlying25 Tryd.underlying5
  rw [hsz] at hr
  refine ⟨_, _, hr, grownCap_ge w 2 0 _, ?_, (Below.refl _ _).drew.alloc (Nat.le_refl _) _, by simp⟩
  intro j hj
  have e : w.heap.size = w.drew.heap.size := rfl
  rw [e, World.cell?_alloc_mark, bytesRow_at _ _ j (by have : (s.extract (2 * k) (2 * k + 2)).data.size = 2 := hsz
                                                       omega)]
  congr 3
  have hd : (s.extract (2 * k) (2 * k + 2)).data = s.data.extract (2 * k) (2 * k + 2) := ByteArray.data_extract
  have hk : 2 * k + j < s.data.size := by have : s.data.size = s.size := rfl
                                          omega
  simp only [hd]
  rw [Array.getElem_extract]
  rw [List.getD_eq_getElem?_getD, Array.getElem?_toList, Array.getElem?_eq_getElem hk, Option.getD_some]

end Go.Proofs.YtggijgclnnlfmaaDoor

/-
  A text's bytes; the walks of strings.IndexByte over the digits, and of wire.Unhex.
-/
import Derived.Test.YteneicngmglgbaaHex
import Derived.Lib.Bytealg
import Derived.Laws.IdiomStrings
import Derived.WalkMore
import Derived.Laws.BitsAllLaws
import Derived.Deep.LoopGhost
namespace Go.Proofs.Yteneicngmglgbaa
open Go.RowKit
set_option linter.unusedVariables false

/-- A digit's number. -/
def hv (c : UInt8) : Option Nat := if 48 ≤ c.toNat ∧ c.toNat ≤ 57 then some (c.toNat - 48) else if 97 ≤ c.toNat ∧ c.toNat ≤ 102 then some (c.toNat - 87) else none
theorem hv_lt {c : UInt8} {x : Nat} (h : hv c = some x) : x < 16 := by
  unfold hv at h
  split at h
  · injection h; omega
  · split at h
    · injection h; omega
    · cases h
theorem index_digits (c : UInt8) : Lib.indexByte digits c = match hv c with | some x => (x : Int) | none => -1 := by
  have h : ∀ n : Fin 256, Lib.indexByte digits (UInt8.ofNat n.val) = match hv (UInt8.ofNat n.val) with | some x => (x : Int) | none => -1 := by decide +kernel
  have := h ⟨c.toNat, c.toNat_lt⟩
  simpa using this

theorem slite_any (s : ByteArray) (c : Int) (w : World) :
    Calls Try.prog 55 #[.string s, .int .u8 c] w fun e w' => e = .returned (.int .i64 (Lib.indexByte s.data.toList c.toNat.toUInt8)) ∧ w = w' := by
  go_enter Try.func55, Try.ntmps55
  go_wp2
  rw [run_callFunc_extern Try.func57 (by kernel_rfl) (by kernel_rfl) (by kernel_rfl) (e := Extern.BytealgIndexByte.indexByte) (by kernel_rfl), Lib.run_indexByteString]
  simp only [Result.andThen]
  rw [Oper.upon_value]
  go_wp2
  go_ret
  exact ⟨rfl, rfl⟩
/-- strings.IndexByte over the digits. -/
theorem digit_at (c : UInt8) (w : World) :
    Calls Try.prog 43 #[.string ⟨#[48, 49, 50, 51, 52, 53, 54, 55, 56, 57, 97, 98, 99, 100, 101, 102]⟩, .int .u8 (c.toNat : Int)] w fun e w' => e = .returned (.int .i64 (Lib.indexByte digits c)) ∧ w = w' := by
  have E := Lib.hid (show ((c.toNat : Int)).toNat.toUInt8 = c by simp)
  go_enter Try.func43, Try.ntmps43
  go_wp2_with fail
  refine (slite_any _ _ _).mono ?_
  rintro e w' ⟨rfl, rfl⟩
  rw [E.out, show (⟨#[48, 49, 50, 51, 52, 53, 54, 55, 56, 57, 97, 98, 99, 100, 101, 102]⟩ : ByteArray).data.toList = digits from rfl]
  go_wp2
  go_ret
  exact ⟨rfl, rfl⟩

/-- A pair of digits, as a byte. -/
def pr (l : List UInt8) (i : Nat) : Option UInt8 :=
  match hv (l.getD (2 * i) 0), hv (l.getD (2 * i + 1) 0) with
  | some x, some y => some (UInt8.ofNat (16 * x + y))
  | _, _ => none
/-- The bytes that the first pairs of a text say. -/
def unhexTo (l : List UInt8) : Nat → Option (List UInt8)
  | 0 => some []
  | i + 1 => match unhexTo l i, pr l i with
    | some m, some c => some (m ++ [c])
    | _, _ => none
/-- The bytes whose text it is. -/
def unhexB (l : List UInt8) : Option (List UInt8) := if l.length % 2 = 0 then unhexTo l (l.length / 2) else none
theorem unhexTo_length (l : List UInt8) : ∀ (i : Nat) (m : List UInt8), unhexTo l i = some m → m.length = i
  | 0, m, h => by simp [unhexTo] at h; simp [← h]
  | i + 1, m, h => by
    unfold unhexTo at h
    split at h
    · rename_i m' c h1 h2
      injection h with h
      rw [← h, List.length_append, unhexTo_length l i m' h1]; rfl
    · cases h
theorem unhexTo_none (l : List UInt8) (i : Nat) (h : unhexTo l i = none) : ∀ j, i ≤ j → unhexTo l j = none
  | 0, hj => by obtain rfl : i = 0 := by omega
                exact h
  | j + 1, hj => by
    by_cases e : i = j + 1
    · subst e; exact h
    · unfold unhexTo
      rw [unhexTo_none l i h j (by omega)]
theorem unhexTo_pr_none (l : List UInt8) (i : Nat) (h : pr l i = none) (j : Nat) (hj : i < j) : unhexTo l j = none := by
  refine unhexTo_none l (i + 1) ?_ j hj
  unfold unhexTo
  rw [h]
  cases unhexTo l i <;> rfl

/-- A pair's number behind so many of its digits. -/
def cj (l : List UInt8) (i : Nat) : Nat → Option Nat
  | 0 => some 0
  | 1 => hv (l.getD (2 * i) 0)
  | _ => match hv (l.getD (2 * i) 0), hv (l.getD (2 * i + 1) 0) with
    | some x, some y => some (16 * x + y)
    | _, _ => none
theorem cj_step (l : List UInt8) (i j x y : Nat) (hj : j < 2) (hx : cj l i j = some x) (hy : hv (l.getD (2 * i + j) 0) = some y) : cj l i (j + 1) = some (16 * x + y) ∧ x < 16 ∧ y < 16 := by
  match j, hj with
  | 0, _ =>
    simp only [cj] at hx ⊢
    injection hx with hx
    subst hx
    exact ⟨by simpa using hy, by decide, hv_lt hy⟩
  | 1, _ =>
    simp only [cj] at hx ⊢
    rw [hx, hy]
    exact ⟨rfl, hv_lt hx, hv_lt hy⟩
theorem cj_none (l : List UInt8) (i j : Nat) (hj : j < 2) (hy : hv (l.getD (2 * i + j) 0) = none) : pr l i = none := by
  unfold pr
  match j, hj with
  | 0, _ => rw [Nat.add_zero] at hy; rw [hy]
  | 1, _ => rw [hy]; cases hv (l.getD (2 * i) 0) <;> rfl
theorem cj_pr (l : List UInt8) (i x : Nat) (h : cj l i 2 = some x) : pr l i = some (UInt8.ofNat x) := by
  simp only [cj] at h
  unfold pr
  cases h1 : hv (l.getD (2 * i) 0) with
  | none => rw [h1] at h; cases h
  | some a =>
    cases h2 : hv (l.getD (2 * i + 1) 0) with
    | none => rw [h1, h2] at h; cases h
    | some b =>
      rw [h1, h2] at h
      injection h with h
      rw [← h]
theorem cj_lt (l : List UInt8) (i j x : Nat) (hj : j ≤ 2) (h : cj l i j = some x) : x < 256 := by
  match j, hj with
  | 0, _ => simp only [cj] at h; injection h with h; omega
  | 1, _ => simp only [cj] at h; have := hv_lt h; omega
  | 2, _ =>
    simp only [cj] at h
    split at h
    · rename_i h1 h2
      injection h with h
      have := hv_lt h1
      have := hv_lt h2
      omega
    · cases h
/-- 'b << 4 | half'. -/
theorem or_half (x y : Nat) (hx : x < 16) (hy : y < 16) : bits .or .u8 ((x : Int) * 16) (y : Int) = ((16 * x + y : Nat) : Int) := by
  have h : ∀ (a b : Fin 16), bits .or .u8 (((a.val : Nat) : Int) * 16) ((b.val : Nat) : Int) = ((16 * a.val + b.val : Nat) : Int) := by decide +kernel
  exact h ⟨x, hx⟩ ⟨y, hy⟩
/-- A row: bytes, one that is being made, and noughts. -/
def rowA (m : List UInt8) (x r : Nat) : Array Value := ((m ++ UInt8.ofNat x :: List.replicate r 0).map bv).toArray
theorem rowA_get (m : List UInt8) (x r : Nat) (hx : x < 256) : (rowA m x r)[m.length]? = some (.int .u8 (x : Int)) := by
  have e : (UInt8.ofNat x).toNat = x := by rw [UInt8.toNat_ofNat']; exact Nat.mod_eq_of_lt hx
  simp [rowA, bv, e]
theorem rowA_set (m : List UInt8) (x y r : Nat) (hy : y < 256) : (rowA m x r).setIfInBounds m.length (.int .u8 (y : Int)) = rowA m y r := by
  have e : (UInt8.ofNat y).toNat = y := by rw [UInt8.toNat_ofNat']; exact Nat.mod_eq_of_lt hy
  apply Array.toList_inj.1
  simp [rowA, bv, e]
/-- A row: bytes, and noughts. -/
def rowK (m : List UInt8) (r : Nat) : Array Value := ((m ++ List.replicate r 0).map bv).toArray
theorem rowK_succ (m : List UInt8) (r : Nat) : rowK m (r + 1) = rowA m 0 r := by simp [rowA, rowK, List.replicate_succ]
theorem rowA_next (m : List UInt8) (x r : Nat) : rowA m x r = rowK (m ++ [UInt8.ofNat x]) r := by simp [rowA, rowK]
theorem rowK_made (n : Nat) : madeCells #[.int .u8 0] n = rowK [] n := by
  apply Array.ext_getElem?
  intro j
  by_cases hj : j < n
  · simp [madeCells, rowK, bv, hj, Nat.mod_one]
  · rw [Array.getElem?_eq_none (by simp [madeCells]; omega), Array.getElem?_eq_none (by simp [rowK]; omega)]
theorem Blk.rowK_sl {w : World} {g : Nat} {m : List UInt8} (h : Blk w g 5 (rowK m 0)) (n : Nat) (hn : n = m.length) : Sl w (.slice (some ⟨g, 0, none⟩) n n) m := by
  subst hn
  refine ⟨_, _, rfl, Nat.le_refl _, fun _ => ⟨g, 0, rfl, fun j hj => ?_⟩⟩
  rw [Nat.zero_add, h.cell j]
  simp [rowK, bv, List.getElem?_eq_getElem hj]

/-- A pair of a text's bytes, as new memory. -/
theorem conv_pair (s : ByteArray) (k : Nat) (w : World) (h : 2 * k + 2 ≤ s.size) :
    ∃ C W, (convert 9 23 (.string (s.extract (2 * k) (2 * k + 2)))).run Try.prog w = .ok (.slice (some ⟨w.heap.size, 0, none⟩) 2 C) W ∧ 2 ≤ C ∧
      (∀ j, j < 2 → W.cell? ⟨w.heap.size, j, none⟩ = some (.int .u8 ((s.data.toList.getD (2 * k + j) 0).toNat : Int))) ∧ Below w.heap.size w W ∧ w.heap.size < W.heap.size := by
  have hsz : (s.extract (2 * k) (2 * k + 2)).size = 2 := by rw [ByteArray.size_extract]; omega
  have hr := run_bytes_of_string (P := Try.prog) w 9 23 5 (s.extract (2 * k) (2 * k + 2)) Try.underlying9 Try.underlying23 Try.underlying5
  rw [hsz] at hr
  refine ⟨_, _, hr, grownCap_ge w 2 0 _, ?_, (Below.refl _ _).drew.alloc (Nat.le_refl _) _, by simp⟩
  intro j hj
  have e : w.heap.size = w.drew.heap.size := rfl
  rw [e, World.cell?_alloc_mark, bytesRow_at _ _ j (by have : (s.extract (2 * k) (2 * k + 2)).data.size = 2 := hsz
                                                       omega)]
  congr 3
  have hd : (s.extract (2 * k) (2 * k + 2)).data = s.data.extract (2 * k) (2 * k + 2) := ByteArray.data_extract
  have hk : 2 * k + j < s.data.size := by have : s.data.size = s.size := rfl
                                          omega
  simp only [hd]
  rw [Array.getElem_extract]
  rw [List.getD_eq_getElem?_getD, Array.getElem?_toList, Array.getElem?_eq_getElem hk, Option.getD_some]

/-- What Unhex answers. -/
def UnhexPost (l : List UInt8) (w : World) (e : Ending) (w' : World) : Prop :=
  ∃ v n, e = .returned (.tuple #[v, .int .i64 n]) ∧ Below w.heap.size w w' ∧ ((∃ m, unhexB l = some m ∧ n = 0 ∧ Sl w' v m) ∨ (unhexB l = none ∧ n = 4 ∧ v = .slice none 0 0))

set_option maxHeartbeats 1000000 in
theorem unhex_any (s : ByteArray) (w : World) (hl : s.size ≤ 20000) :
    Calls Try.prog 25 #[.string s] w (UnhexPost s.data.toList w) := by
  obtain ⟨i0, hi, hz0, hz1, hz2⟩ := info_parts info_u8
  by_cases hodd : s.size % 2 = 1
  · have h1 : (s.size : Int) % 2 = 1 := by omega
    have E := Lib.hid (show unhexB s.data.toList = none by unfold unhexB; rw [if_neg (by simp; omega)])
    go_enter Try.func25, Try.ntmps25
    go_wp2
    go_step3
    go_wp2
    try rw [Exit.noGoto_ret]
    go_ret2
    exact ⟨_, _, rfl, Below.refl _ _, .inr ⟨E.out, rfl, rfl⟩⟩
  · have h1 : (s.size : Int) % 2 = 0 := by omega
    obtain ⟨n, hn⟩ : ∃ n, s.size = 2 * n := ⟨s.size / 2, by omega⟩
    have E := Lib.hid (show unhexB s.data.toList = unhexTo s.data.toList n by unfold unhexB; rw [if_pos (by simp; omega)]; congr 1; simp; omega)
    have hmk : ∀ u : World, (Instr.makeSlice 23 (.int .i64 (n : Int)) (.int .i64 (n : Int))).run Try.prog u =
        .ok (.slice (some ⟨u.heap.size, 0, none⟩) n n) (u.alloc (.cells (madeCells #[.int .u8 0] n) 5)) := fun u => by
      have h := run_make (P := Try.prog) u 23 5 i0 (.int .u8 0) Try.underlying23 hi hz0 .i64 .i64 (n : Int) (n : Int) (by omega) (by omega) (by rw [hz2]; omega) (by omega)
      simpa [hz1, Value.cells] using h
    have HN := Lib.hid hn
    have hd : (s.size : Int) / 2 = (n : Int) := by omega
    clear hn
    go_enter Try.func25, Try.ntmps25
    go_wp2
    go_step3
    go_wp2
    go_step3
    go_wp2
    clear hmk h1 hd
    have hB0 := Blk.new w 5 (madeCells #[.int .u8 0] n)
    rw [rowK_made] at hB0 ⊢
    have hb0 : Below w.heap.size w (w.alloc (.cells (rowK [] n) 5)) := (Below.refl _ _).alloc (Nat.le_refl _) _
    generalize w.alloc (.cells (rowK [] n) 5) = W0 at hB0 hb0 ⊢
    go_loopw [4, 5, 20] (fun x y z wr => ∃ (k : Nat) (m : List UInt8), k ≤ n ∧ x = .slice (some ⟨w.heap.size, 0, none⟩) n n ∧ y = .int .i64 0 ∧ z = .int .i64 (k : Int) ∧ unhexTo s.data.toList k = some m ∧ Blk wr w.heap.size 5 (rowK m (n - k)) ∧ Below w.heap.size w wr) (fun _ _ z _ => n - (intOf z).toNat)
    case atStart => exact ⟨0, [], Nat.zero_le _, rfl, rfl, rfl, rfl, hB0, hb0⟩
    case round =>
      clear hB0 hb0
      obtain ⟨k, m, hk, rfl, rfl, rfl, hm, hB, hb⟩ := hrel
      have hml := unhexTo_length _ _ _ hm
      have HM := Lib.hid hm
      have HML := Lib.hid hml
      clear hm hml
      by_cases hlt : k < n
      · obtain ⟨r, hr⟩ : ∃ r, n - k = r + 1 := ⟨n - k - 1, by omega⟩
        have HR := Lib.hid (show n - (k + 1) = r by omega)
        rw [hr, rowK_succ] at hB
        clear hr
        have hs2 : 2 * k + 2 ≤ s.size := by have := HN.out; omega
        obtain ⟨C, W1, hcv, hC, hpair, hb1, hz1⟩ := conv_pair s k wr hs2
        have hB1 := hB.below hb1 hB.lt
        have hb2 := hb.trans (hb1.mono hb.size)
        have hgl := hB.lt
        clear hB hb hb1
        generalize wr.heap.size = g at hcv hpair hz1 hgl
        have HP := Lib.hid hpair
        clear hpair
        go_wp2
        clear hcv
        go_loopw [4, 5, 32] (fun x y z wi => ∃ (j v : Nat), j ≤ 2 ∧ x = .slice (some ⟨w.heap.size, 0, none⟩) n n ∧ y = .int .i64 0 ∧ z = .int .i64 (j : Int) ∧ cj s.data.toList k j = some v ∧ Blk wi w.heap.size 5 (rowA m v r) ∧ (∀ j, j < 2 → wi.cell? ⟨g, j, none⟩ = some (.int .u8 ((s.data.toList.getD (2 * k + j) 0).toNat : Int))) ∧ Below w.heap.size w wi) (fun _ _ z _ => 2 - (intOf z).toNat)
        case atStart => exact ⟨0, 0, by omega, rfl, rfl, rfl, rfl, hB1, HP.out, hb2⟩
        case round =>
          clear hB1 hb2 HP
          obtain ⟨j, v, hj, rfl, rfl, rfl, hv', hB, hpair, hb⟩ := hrel
          have HV := Lib.hid hv'
          have hv256 := cj_lt _ _ _ _ hj hv'
          clear hv'
          by_cases hlj : j < 2
          · have hcell := hpair j hlj
            have HP := Lib.hid hpair
            clear hpair
            obtain ⟨ch, hch⟩ : ∃ ch, s.data.toList.getD (2 * k + j) 0 = ch := ⟨_, rfl⟩
            rw [hch] at hcell
            have HCH := Lib.hid hch
            clear hch
            cases hhv : hv ch with
            | none =>
              have HN2 := Lib.hid (unhexTo_pr_none _ k (cj_none _ k j hlj (by rw [HCH.out]; exact hhv)) n hlt)
              have hix : Lib.indexByte digits ch = -1 := by rw [index_digits, hhv]
              clear hhv
              go_wp2_with fail
              refine (digit_at ch _).mono ?_
              rintro e w' ⟨rfl, rfl⟩
              rw [hix]
              clear hix
              go_wp2
              try rw [Exit.noGoto_ret]
              go_ret2
              exact ⟨_, _, rfl, hb, .inr ⟨E.out.trans HN2.out, rfl, rfl⟩⟩
            | some y =>
              obtain ⟨hstep, hv16, hy16⟩ := cj_step _ k j v y hlj HV.out (by rw [HCH.out]; exact hhv)
              have HS := Lib.hid hstep
              have hix : Lib.indexByte digits ch = (y : Int) := by rw [index_digits, hhv]
              have HO := Lib.hid (or_half v y hv16 hy16)
              clear hhv hstep
              have hcm : wr.cell? ⟨w.heap.size, k, none⟩ = some (.int .u8 (v : Int)) := by rw [hB.cell, ← HML.out, rowA_get _ _ _ hv256]
              have hfm := hB.frozen k
              go_wp2_with fail
              refine (digit_at ch _).mono ?_
              rintro e w' ⟨rfl, rfl⟩
              rw [hix]
              clear hix
              go_wp2
              go_roundw
              case rel =>
                rw [HO.out]
                refine ⟨j + 1, 16 * v + y, by omega, rfl, rfl, by go_num, HS.out, ?_, ?_, hb.setCell (by simp) _⟩
                · have hset := hB.set_ k (.int .u8 ((16 * v + y : Nat) : Int))
                  rw [← HML.out, rowA_set m v (16 * v + y) r (by omega)] at hset
                  rw [← HML.out]
                  exact hset
                · intro j' hj'
                  rw [← HP.out j' hj']
                  exact World.cell?_setCell_far _ _ _ _ (show w.heap.size ≠ g by omega)
              case measure => simp [intOf]; omega
          · obtain rfl : j = 2 := by omega
            have E3 := Lib.hid (cj_pr _ _ _ HV.out)
            clear hpair
            go_wp2
            go_roundw
            case rel =>
              refine ⟨k + 1, m ++ [UInt8.ofNat v], by omega, rfl, rfl, by go_num, ?_, ?_, hb⟩
              · unfold unhexTo
                rw [HM.out, E3.out]
              · rw [HR.out, ← rowA_next]
                exact hB
            case measure => simp [intOf]; omega
      · obtain rfl : k = n := by omega
        rw [Nat.sub_self] at hB
        have hsl := Lib.hid (hB.rowK_sl k HML.out.symm)
        clear hB
        go_wp2
        try rw [Exit.noGoto_ret]
        go_ret2
        exact ⟨_, _, rfl, hb, .inl ⟨m, E.out.trans HM.out, rfl, hsl.out⟩⟩
end Go.Proofs.Yteneicngmglgbaa

/-
  The walks of sha.hashOf and sha.padded.
-/
import Derived.Test.YthlopecllhdmhaaDoorShaPress
import Derived.Test.YthlopecllhdmhaaDoorShaCat
namespace Go.Proofs.YthlopecllhdmhaaDoor
open Go.RowKit
set_option linter.unusedVariables false

/-- A hash as a row of cells. -/
def rowB (l : List UInt8) : Array Value := (l.map bv).toArray
theorem rowB_size (l : List UInt8) : (rowB l).size = l.length := by simp [rowB]
theorem rowB_one (l : List UInt8) : (rowB l).all (·.oneCell') = true := by
  rw [Array.all_eq_true_iff_forall_mem]
  intro v hv
  simp only [rowB, List.mem_toArray, List.mem_map] at hv
  obtain ⟨n, _, rfl⟩ := hv
  rfl
theorem rowB_get (l : List UInt8) (i : Nat) (h : i < l.length) : (rowB l)[i]? = some (.int .u8 (l[i].toNat : Int)) := by simp [rowB, h, bv]
theorem info_h32 : (Tryd.prog.info? 45).map (·.size) = some 32 := by kernel_rfl
theorem rowB_info {l : List UInt8} (h : l.length = 32) : (Tryd.prog.info? 45).map (·.size) = some (rowB l).size := by rw [info_h32, rowB_size, h]
/-- The first k bytes, and noughts. -/
def fillB (l : List UInt8) (n k : Nat) : List UInt8 := l.take k ++ List.replicate (n - k) 0
theorem fillB_length (l : List UInt8) (n k : Nat) (hl : l.length = n) (hk : k ≤ n) : (fillB l n k).length = n := by simp [fillB]; omega
theorem fillB_zero (l : List UInt8) (n : Nat) : fillB l n 0 = List.replicate n 0 := by simp [fillB]
theorem fillB_done (l : List UInt8) (n : Nat) (hl : l.length = n) : fillB l n n = l := by simp [fillB, ← hl]
theorem fillB_set (l : List UInt8) (n k : Nat) (hl : l.length = n) (hk : k < n) : (fillB l n k).set k (l[k]'(by omega)) = fillB l n (k + 1) := by
  unfold fillB
  rw [List.set_append_right _ _ (by simp; omega), List.length_take, show k - min k l.length = 0 by omega, show n - k = (n - (k + 1)) + 1 by omega, List.replicate_succ, List.set_cons_zero, List.take_succ_eq_append_getElem (by omega), List.append_assoc]
  rfl
theorem rowB_set (l : List UInt8) (i : Nat) (x : UInt8) (z : Int) (hz : z = (x.toNat : Int)) : (rowB l).setIfInBounds i (.int .u8 z) = rowB (l.set i x) := by
  subst hz
  apply Array.toList_inj.1
  simp [rowB, List.map_set, bv]
theorem bytes_at (s : St) : ∀ k (h : k < 32), s.bytes[k]'(by rw [St.bytes_length]; exact h) = UInt8.ofNat (s.list.getD (k / 4) 0 / 2 ^ (24 - 8 * (k % 4)))
  | 0, _ => rfl
  | 1, _ => rfl
  | 2, _ => rfl
  | 3, _ => by show UInt8.ofNat s.a = UInt8.ofNat (s.a / 1); rw [Nat.div_one]
  | 4, _ => rfl
  | 5, _ => rfl
  | 6, _ => rfl
  | 7, _ => by show UInt8.ofNat s.b = UInt8.ofNat (s.b / 1); rw [Nat.div_one]
  | 8, _ => rfl
  | 9, _ => rfl
  | 10, _ => rfl
  | 11, _ => by show UInt8.ofNat s.c = UInt8.ofNat (s.c / 1); rw [Nat.div_one]
  | 12, _ => rfl
  | 13, _ => rfl
  | 14, _ => rfl
  | 15, _ => by show UInt8.ofNat s.d = UInt8.ofNat (s.d / 1); rw [Nat.div_one]
  | 16, _ => rfl
  | 17, _ => rfl
  | 18, _ => rfl
  | 19, _ => by show UInt8.ofNat s.e = UInt8.ofNat (s.e / 1); rw [Nat.div_one]
  | 20, _ => rfl
  | 21, _ => rfl
  | 22, _ => rfl
  | 23, _ => by show UInt8.ofNat s.f = UInt8.ofNat (s.f / 1); rw [Nat.div_one]
  | 24, _ => rfl
  | 25, _ => rfl
  | 26, _ => rfl
  | 27, _ => by show UInt8.ofNat s.g = UInt8.ofNat (s.g / 1); rw [Nat.div_one]
  | 28, _ => rfl
  | 29, _ => rfl
  | 30, _ => rfl
  | 31, _ => by show UInt8.ofNat s.h = UInt8.ofNat (s.h / 1); rw [Nat.div_one]
  | n + 32, h => absurd h (by omega)
theorem shr_hash (x m : Nat) : (x : Int) / 2 ^ m % 256 = ((UInt8.ofNat (x / 2 ^ m)).toNat : Int) := by
  have e2 : (2 : Int) ^ m = ((2 ^ m : Nat) : Int) := (Int.natCast_pow 2 m).symm
  rw [e2]
  have e3 : ((x : Int) / ((2 ^ m : Nat) : Int)) = ((x / 2 ^ m : Nat) : Int) := by simp
  rw [e3]
  generalize x / 2 ^ m = n
  simp

set_option maxHeartbeats 800000 in
theorem hashOf_any (s : St) (w : World) (hok : s.ok) :
    Calls Tryd.prog 51 #[.agg s.row] w fun e w' => e = .returned (.agg (rowB s.bytes)) ∧ Below w.heap.size w w' := by
  have hi := s.row_info
  have h1 := s.row_one
  have hz := s.row_size
  have HC := Lib.hid (fun i (h : i < 8) => rowU_getD (l := s.list) (i := i) h)
  have HY := Lib.hid (bytes_at s)
  have hbl : s.bytes.length = 32 := s.bytes_length
  generalize hR : s.row = R at hi h1 hz
  have ER := Lib.hid hR
  clear hR
  go_enter Tryd.func51, Tryd.ntmps51
  go_wp2
  have hB0 := ((Blk.new w 73 R).alloc (.cells (rowB (List.replicate 32 0)) 45)).alloc (.cells (rowB (List.replicate 32 0)) 45)
  have hB1 := (Blk.new (w.alloc (.cells R 73)) 45 (rowB (List.replicate 32 0))).alloc (.cells (rowB (List.replicate 32 0)) 45)
  have hB2 := Blk.new ((w.alloc (.cells R 73)).alloc (.cells (rowB (List.replicate 32 0)) 45)) 45 (rowB (List.replicate 32 0))
  rw [show (w.alloc (.cells R 73)).heap.size = w.heap.size + 1 by simp] at hB1
  rw [show ((w.alloc (.cells R 73)).alloc (.cells (rowB (List.replicate 32 0)) 45)).heap.size = w.heap.size + 1 + 1 by simp] at hB2
  have hbw : Below w.heap.size w (((w.alloc (.cells R 73)).alloc (.cells (rowB (List.replicate 32 0)) 45)).alloc (.cells (rowB (List.replicate 32 0)) 45)) := (((Below.refl _ _).alloc (Nat.le_refl _) _).alloc (by simp) _).alloc (by simp; omega) _
  change Code.wp _ _ _ _ (((w.alloc (.cells R 73)).alloc (.cells (rowB (List.replicate 32 0)) 45)).alloc (.cells (rowB (List.replicate 32 0)) 45))
  generalize ((w.alloc (.cells R 73)).alloc (.cells (rowB (List.replicate 32 0)) 45)).alloc (.cells (rowB (List.replicate 32 0)) 45) = W at hB0 hB1 hB2 hbw ⊢
  rw [← fillB_zero s.bytes 32] at hB2
  have hZ : (rowB (List.replicate 32 0)).size = 32 := by rw [rowB_size, List.length_replicate]
  generalize rowB (List.replicate 32 0) = Z at hB1 hZ
  go_loopw [5] (fun z wr => ∃ k : Nat, k ≤ 32 ∧ z = .int .i64 (k : Int) ∧ Blk wr w.heap.size 73 R ∧ Blk wr (w.heap.size + 1) 45 Z ∧ Blk wr (w.heap.size + 1 + 1) 45 (rowB (fillB s.bytes 32 k)) ∧ Below w.heap.size w wr) (fun z _ => 32 - (intOf z).toNat)
  case atStart => exact ⟨0, Nat.zero_le _, rfl, hB0, hB1, hB2, hbw⟩
  case round =>
    clear hB0 hB1 hB2 hbw
    obtain ⟨k, hk, rfl, hB0, hB1, hB2, hbw⟩ := hrel
    by_cases hlt : k < 32
    · have hck : wr.cell? ⟨w.heap.size, k / 4, none⟩ = some (.int .u32 (s.list.getD (k / 4) 0 : Int)) := by
        rw [hB0.cell, ← ER.out]; exact HC.out (k / 4) (by omega)
      have hfr := hB2.frozen k
      have hcz : wr.cell? ⟨w.heap.size + 1 + 1, k, none⟩ = some (.int .u8 (((fillB s.bytes 32 k)[k]'(by rw [fillB_length _ _ _ hbl (by omega)]; exact hlt)).toNat : Int)) := by
        rw [hB2.cell, rowB_get _ _ (by rw [fillB_length _ _ _ hbl (by omega)]; exact hlt)]
      have HB := Lib.hid (HY.out k hlt)
      have HS := Lib.hid (fillB_set s.bytes 32 k hbl hlt)
      have k4 : k / 4 ≤ 7 := by omega
      generalize (fillB s.bytes 32 k)[k]'(by rw [fillB_length _ _ _ hbl (by omega)]; exact hlt) = old at hcz
      generalize s.list.getD (k / 4) 0 = x at hck HB
      go_wp2
      go_roundw
      case rel => exact ⟨k + 1, by omega, by go_num, hB0.far (by simp; omega) _, hB1.far (by simp) _, by rw [← HS.out, HB.out, ← rowB_set _ _ _ _ (shr_hash x (24 - 8 * (k % 4)))]; exact hB2.set_ _ _, hbw.setCell (by simp; omega) _⟩
      case measure => simp [intOf]; omega
    · obtain rfl : k = 32 := by omega
      rw [fillB_done _ _ hbl] at hB2
      have hi2 := rowB_info hbl
      have h12 := rowB_one s.bytes
      have hs2 := rowB_size s.bytes
      rw [hbl] at hs2
      generalize hT : rowB s.bytes = T at hB2 hi2 h12 hs2
      have ET := Lib.hid hT
      clear hT
      have hth : wr.there (w.heap.size + 1) 0 T.size := by rw [hs2, ← hZ]; exact hB1.there
      go_wp2_with (first | (refine wpList_load_row rfl 45 _ rfl (w.heap.size + 1 + 1) rfl 45 T (0, 0) _ hB2 Tryd.underlying45 rfl hi2 ?_) | (refine wpList_store_mid rfl 45 _ _ rfl (w.heap.size + 1) 0 T rfl rfl hth hi2 h12 ?_))
      have hE : Blk (wr.setCells (w.heap.size + 1) 0 T.toList) (w.heap.size + 1) 45 T := hB1.setRow (by rw [hs2, hZ])
      have hgE := grown_setCells (w.heap.size + 1) T.toList 0 wr
      exact bodyPost_ret (v := .agg T) (results_cell_row rfl _ _ (w.heap.size + 1) 45 T (0, 0) _ rfl hE Tryd.underlying45 rfl hi2) rfl ⟨by rw [ET.out], Below.only hbw hgE (by omega) hbw.size⟩

/-- A slice's length. -/
def lenOf : Value → Nat
  | .slice _ n _ => n
  | _ => 0
theorem Own.lenOf {w : World} {b : Nat} {e : TypeId} {v : Value} {l : List UInt8} (h : Own w b e v l) : lenOf v = l.length := by
  obtain ⟨A, n, c, rfl⟩ := h.shape
  exact h.sl.len
theorem pad_test (n k : Nat) : (((n + 1 + k : Nat) : Int) + 8) % 64 = (((n + 9 + k) % 64 : Nat) : Int) := by omega
theorem zerosN_lt (n : Nat) : zerosN n < 64 := Nat.mod_lt _ (by decide)
theorem zerosN_not (n k : Nat) (h : k < zerosN n) : (n + 9 + k) % 64 ≠ 0 := by unfold zerosN at h; omega
theorem zerosN_at (n : Nat) : (n + 9 + zerosN n) % 64 = 0 := by unfold zerosN; omega
def padK (m : List UInt8) (k : Nat) : List UInt8 := m ++ [128] ++ List.replicate k 0
theorem padK_length (m : List UInt8) (k : Nat) : (padK m k).length = m.length + 1 + k := by simp [padK]; omega
theorem padK_succ (m : List UInt8) (k : Nat) : padK m (k + 1) = padK m k ++ [0] := by simp [padK, List.replicate_succ', List.append_assoc]

set_option maxHeartbeats 800000 in
theorem padded_any (v : Value) (ls : List (List UInt8)) (w : World) (hs : Sls w v ls) (hl : ls.flatten.length ≤ 1000000) (hn : ls.length ≤ 9223372036854775807) :
    Calls Tryd.prog 49 #[v] w fun e w' => ∃ v', e = .returned v' ∧ Own w' w.heap.size 5 v' (padN ls.flatten) ∧ Below w.heap.size w w' := by
  obtain ⟨i0, hi, hz0, hz1, hz2⟩ := info_parts info_u8
  have hs' := hs
  obtain ⟨A, c, rfl, hc, ha⟩ := hs
  clear ha
  go_enter Tryd.func49, Tryd.ntmps49
  go_wp2_with fail
  refine (concat_any _ ls w hs' (by omega) hn).mono ?_
  rintro e w1 ⟨v1, rfl, ho, hb1⟩
  clear hs'
  generalize hm : ls.flatten = m at hl ho
  have EM := Lib.hid hm
  clear hm
  obtain ⟨A1, n1, c1, rfl⟩ := ho.shape
  have hn1 := ho.sl.len
  subst hn1
  have hsz := hb1.size
  go_wp2_with (at_builtin; refine wpList_append_bytes _ rfl _ _ 22 rfl w.heap.size 5 i0 Tryd.underlying22 hi hz0 hz1 hz2 _ m rfl (ho.alloc _) _ [128] rfl (Sl.one w1 5 _ _ rfl) ?_ ?_ ?_)
  · simp; omega
  · simp; omega
  intro v2 w2 ho2 hb2
  have hb02 : Below w.heap.size w w2 := (hb1.alloc hsz _).trans hb2
  have Ho2 := Lib.hid (show Own w2 w.heap.size 5 v2 (padK m 0) by simpa [padK] using ho2)
  clear ho ho2 hb1 hb2
  go_wp2
  go_loopw [3] (fun x wr => ∃ k : Nat, k ≤ zerosN m.length ∧ Own wr w.heap.size 5 x (padK m k) ∧ Below w.heap.size w wr) (fun x _ => m.length + 1 + zerosN m.length - lenOf x)
  case atStart => exact ⟨0, Nat.zero_le _, Ho2.out, hb02⟩
  case round =>
    clear Ho2 hb02
    obtain ⟨k, hk, ho, hb⟩ := hrel
    obtain ⟨A3, n3, c3, rfl⟩ := ho.shape
    have hn3 := ho.sl.len
    rw [padK_length] at hn3
    subst hn3
    have hz64 := zerosN_lt m.length
    have hbw : w.heap.size ≤ wr.heap.size := hb.size
    by_cases hlt : k < zerosN m.length
    · have ht := zerosN_not m.length k hlt
      have hp := pad_test m.length k
      have hne : (((m.length + 9 + k) % 64 : Nat) : Int) ≠ 0 := by omega
      have hlen : (padK m k).length + 1 ≤ 1000000000 := by rw [padK_length]; omega
      go_wp2_with (at_builtin; refine wpList_append_bytes _ rfl _ _ 22 rfl w.heap.size 5 i0 Tryd.underlying22 hi hz0 hz1 hz2 _ (padK m k) rfl (ho.alloc _) _ [0] rfl (Sl.one wr 5 _ _ rfl) ?_ ?_ ?_)
      · exact hlen
      · simp; omega
      · intro v' w3 ho3 hb3
        have Ho := Lib.hid (show Own w3 w.heap.size 5 v' (padK m (k + 1)) by rw [padK_succ]; exact ho3)
        have HL := Lib.hid Ho.out.lenOf
        clear ho3 hp ht hne
        go_wp2
        go_roundw
        case rel => exact ⟨k + 1, by omega, Ho.out, (hb.alloc hbw _).trans hb3⟩
        case measure => have := HL.out; rw [padK_length] at this; simp only [lenOf] at *; simp at *; omega
    · obtain rfl : k = zerosN m.length := by omega
      have ht := zerosN_at m.length
      have hp : (((m.length + 1 + zerosN m.length : Nat) : Int) + 8) % 64 = 0 := by rw [pad_test, ht]; rfl
      have Ho := Lib.hid ho
      have hB8 : 8 * m.length < 18446744073709551616 := by omega
      clear ho ht
      generalize hz : zerosN m.length = z at Ho hp hz64
      have EZ := Lib.hid hz
      clear hz hlt hk
      go_wp2
      clear hp
      generalize h8 : 8 * m.length = nb at hB8
      have E8 := Lib.hid h8
      rw [show (8 * (m.length : Int)) = (nb : Int) by omega]
      clear h8
      generalize Value.bool (((m.length : Int) + 1 + (z : Int) + 8) % 64 != 0) = s19
      generalize Value.int .i64 (((m.length : Int) + 1 + (z : Int) + 8) % 64) = s18
      go_loopw [3, 5] (fun x y wr => ∃ j : Nat, j ≤ 8 ∧ y = .int .i64 ((j : Int) - 1) ∧ Own wr w.heap.size 5 x (padK m z ++ (beB 8 nb).take (8 - j)) ∧ Below w.heap.size w wr) (fun _ y _ => (intOf y + 1).toNat)
      case atStart => exact ⟨8, Nat.le_refl _, rfl, by simpa using Ho.out, hb⟩
      case round =>
        clear hb
        obtain ⟨j, hj, rfl, ho, hb⟩ := hrel
        by_cases h0 : 0 < j
        · obtain ⟨i, rfl⟩ : ∃ i, j = i + 1 := ⟨j - 1, by omega⟩
          rw [show (((i + 1 : Nat) : Int) - 1) = (i : Int) by omega]
          have hlen : (padK m z ++ (beB 8 nb).take (8 - (i + 1))).length + 1 ≤ 1000000000 := by
            have := beB_length 8 nb
            rw [List.length_append, padK_length, List.length_take]; omega
          have hbw : w.heap.size ≤ wr.heap.size := hb.size
          go_wp2_with (at_builtin; refine wpList_append_bytes _ rfl _ _ 22 rfl w.heap.size 5 i0 Tryd.underlying22 hi hz0 hz1 hz2 _ (padK m z ++ (beB 8 nb).take (8 - (i + 1))) rfl (ho.alloc _) _ [UInt8.ofNat (nb / 256 ^ i % 256)] rfl (Sl.one wr 5 _ _ (shr_spell nb i)) ?_ ?_ ?_)
          · exact hlen
          · simp; omega
          · intro v' w3 ho3 hb3
            have Hx := Lib.hid ho3
            clear ho3
            go_wp2
            go_roundw
            case rel => exact ⟨i, by omega, by go_num, by rw [take_byte (padK m z) nb 8 i (by omega), List.append_assoc, show 8 - (i + 1) = 7 - i by omega]; exact Hx.out, (hb.alloc hbw _).trans hb3⟩
            case measure => simp [intOf]
        · obtain rfl : j = 0 := by omega
          go_wp2
          go_ret
          have e : (beB 8 nb).take (8 - 0) = beB 8 nb := List.take_of_length_le (by rw [beB_length]; omega)
          rw [e, ← E8.out, ← EZ.out] at ho
          exact ⟨_, rfl, by rw [EM.out]; exact ho, hb⟩

theorem Sl.begin {w : World} {A : Option Addr} {n c : Nat} {l : List UInt8} (h : Sl w (.slice A n c) l) (m : Nat) (hm : m ≤ n) (c' : Nat) (hc' : m ≤ c') : Sl w (.slice A m c') (l.take m) := by
  have hn := h.len
  obtain ⟨A', c2, e, hc, ha⟩ := h
  injection e with e1 e2 e3
  subst e1 e3
  refine ⟨A, c', by rw [List.length_take, Nat.min_eq_left (by omega)], by rw [List.length_take]; omega, fun h0 => ?_⟩
  rw [List.length_take] at h0
  obtain ⟨b, o, rfl, hx⟩ := ha (by omega)
  refine ⟨b, o, rfl, fun j hj => ?_⟩
  rw [List.length_take] at hj
  rw [hx j (by omega), List.getElem_take]

end Go.Proofs.YthlopecllhdmhaaDoor

/-
  slices.Clone of bytes; slices.Grow and slices.Concat of lines; maps.Clone of the lines.
-/
import Derived.Test.YtellbmghahgjfaaNetB
import Derived.Shelf.SlMaps.Clone
import Derived.Lib.SliceRun
namespace Go.Proofs
open Go.Shelf
def Try.cloneL_ren : Go.Shelf.Ren := ⟨fun | 5 => 30 | 7 => 47 | n => n, fun | 4 => 4 | 20 => 20 | 23 => 53 | 25 => 61 | 3 => 62 | n => n, fun | n => n⟩
theorem Try.cloneL : Go.Proofs.SlLaysW.n5 Try.prog Try.cloneL_ren := {
  mixed := by kernel_rfl
  f5 := ⟨Try.f30.name, by decide, Try.func30.trans (congrArg some (by kernel_rfl))⟩
  f7 := Try.func47.trans (congrArg some (by kernel_rfl))
  t4 := Try.underlying4
  a4 := Try.isAgg4
  z4 := Try.sizeOf4
  v4 := Try.zeroValue4
  t20 := Try.underlying20
  a20 := Try.isAgg20
  z20 := Try.sizeOf20
  v20 := Try.zeroValue20
  t23 := Try.underlying53
  a23 := Try.isAgg53
  z23 := Try.sizeOf53
  v23 := Try.zeroValue53 }
end Go.Proofs
namespace Go.Proofs.Ytellbmghahgjfaa
open Go.RowKit Go.Maps Go.WideShapes Go.WideMaps
open NetM
set_option linter.unusedVariables false
set_option linter.unusedSimpArgs false
set_option maxRecDepth 20000

theorem cloneL_any (n b : Nat) (K : Kl) (w : World) (hown : w.ownsMap Try.prog 61 heldR b n (MD svD K)) : Calls Try.prog 30 #[.map (some b)] w fun e w' => e = .returned (.map (some w.heap.size)) ∧ w'.ownsMap Try.prog 61 heldR w.heap.size n (MD svD K) ∧ w'.ownsMap Try.prog 61 heldR b n (MD svD K) ∧ Below w.heap.size w w' :=
  AnyW.maps_Clone_owns Try.cloneL 61 heldR b n (MD svD K) w hown
theorem cloneL_nil (w : World) : Calls Try.prog 30 #[.map none] w fun e w' => e = .returned (.map none) ∧ w' = w := AnyW.maps_Clone_nil Try.cloneL w
set_option maxHeartbeats 400000 in
/-- slices.Clone. -/
theorem clone_any (v : Value) (l : List UInt8) (w : World) (hs : Sl w v l) (hl : l.length ≤ 140737488355328) :
    Calls Try.prog 39 #[v] w fun e w' => ∃ v', e = .returned v' ∧ Own w' w.heap.size 5 v' l ∧ Below w.heap.size w w' := by
  obtain ⟨i0, hi, hz0, hz1, hz2⟩ := info_parts info_u8
  have hs' := hs
  obtain ⟨A, c, rfl, hc, ha⟩ := hs
  have heq := fun (w : World) (a : Option Addr) (n c : Nat) => Lib.run_eql_slice_nil (P := Try.prog) w 37 5 a n c 0 0 Try.underlying37
  cases A with
  | none =>
    have h0 : l = [] := by
      rcases Nat.eq_zero_or_pos l.length with h0 | h0
      · exact List.eq_nil_of_length_eq_zero h0
      · obtain ⟨b, o, h, _⟩ := ha h0
        cases h
    subst h0
    clear ha
    go_enter Try.func39, Try.ntmps39
    go_wp2
    go_ret
    exact ⟨_, rfl, Own.nil, Below.refl _ _⟩
  | some ad =>
    clear ha
    have Ho := Lib.hid (Own.of_new w w.heap.size 5 #[] [] 0 (Nat.le_refl _) rfl rfl (by simp))
    have Hl := Lib.hid (show ([] : List UInt8).length + l.length ≤ 140737488355328 by simp; omega)
    go_enter Try.func39, Try.ntmps39
    go_wp2_with (at_builtin; refine wpList_append_big _ rfl _ _ 37 rfl w.heap.size 5 i0 Try.underlying37 hi hz0 hz1 hz2 _ [] rfl Ho.out _ l rfl (hs'.alloc _) Hl.out (by simp) ?_)
    intro v2 w2 ho2 hb2
    have Ho2 := Lib.hid ho2
    clear ho2
    go_wp2
    go_ret
    exact ⟨_, rfl, Ho2.out, ((Below.refl _ _).alloc (Nat.le_refl _) _).trans hb2⟩

set_option maxHeartbeats 400000 in
theorem growL_nil (n : Nat) (w : World) (hn : n ≤ 4000000) :
    Calls Try.prog 52 #[.slice none 0 0, .int .i64 (n : Int)] w fun e w' => ∃ v', e = .returned v' ∧ OwnK kSl w' w.heap.size v' [] ∧ Below w.heap.size w w' := by
  obtain ⟨i0, hi, hz0, hz1, hz2⟩ := info_parts info_sl
  by_cases h0 : 0 < n
  · have happ := Lib.run_append_nil_zeros (P := Try.prog) w 62 3 62 37 i0 (.slice none 0 0) .i64 .i64 Try.underlying62 Try.underlying3 hi hz0 n h0 (by omega) (by omega) (by rw [hz2]; omega)
    have hge := grownCap_ge w n 0 37
    have hle := grownCap_le_maxLen w n 0 37 (by unfold maxLen; omega)
    generalize grownCap w n 0 37 = cap at happ hge hle
    have hsz : (Builtin.zeroCells (Value.slice none 0 0).cells n ++ Builtin.zeroCells (Value.slice none 0 0).cells (cap - n)).size = cap * 1 := by simp [size_zeroCells, Value.cells]; omega
    generalize Builtin.zeroCells (Value.slice none 0 0).cells n ++ Builtin.zeroCells (Value.slice none 0 0).cells (cap - n) = Z at happ hsz
    have hgt : decide ((n : Int) > 0) = true := by simp; omega
    go_enter Try.func52, Try.ntmps52
    go_wp2_with (at_builtin; refine Lib.wpList_append_run _ rfl _ _ _ _ rfl _ _ rfl rfl _ _ happ ?_)
    go_ret
    exact ⟨_, rfl, World.ownsRow_made w.drew Z cap (Nat.le_refl _) hle hsz, (Below.refl _ _).drew.alloc (Nat.le_refl _) _⟩
  · obtain rfl : n = 0 := by omega
    go_enter Try.func52, Try.ntmps52
    go_wp2
    go_ret
    exact ⟨_, rfl, OwnK.nil, Below.refl _ _⟩


theorem flat_take_succ {α : Type} (ls : List (List α)) (k : Nat) (h : k < ls.length) : (ls.take (k + 1)).flatten = (ls.take k).flatten ++ ls[k] := by
  rw [List.take_succ_eq_append_getElem h, List.flatten_append]; simp
theorem flat_take_le {α : Type} (ls : List (List α)) (k : Nat) (h : k < ls.length) : (ls.take k).flatten.length + ls[k].length ≤ ls.flatten.length := by
  have h1 := flat_take_succ ls k h
  have h2 : ls.flatten = (ls.take (k + 1)).flatten ++ (ls.drop (k + 1)).flatten := by rw [← List.flatten_append, List.take_append_drop]
  have h3 := congrArg List.length h1
  have h4 := congrArg List.length h2
  rw [List.length_append] at h3 h4
  omega
/-- Lines, one behind the other. -/
def allOf (LL : List (Sv × List Sv)) : List Sv := (LL.map Prod.snd).flatten
theorem allOf_succ (LL : List (Sv × List Sv)) (k : Nat) (h : k < LL.length) : allOf (LL.take (k + 1)) = allOf (LL.take k) ++ LL[k].2 := by
  unfold allOf
  rw [List.map_take, List.map_take, flat_take_succ _ k (by simpa using h)]; simp
theorem allOf_le (LL : List (Sv × List Sv)) (k : Nat) (h : k < LL.length) : (allOf (LL.take k)).length + LL[k].2.length ≤ (allOf LL).length := by
  unfold allOf
  rw [List.map_take]
  have := flat_take_le (LL.map Prod.snd) k (by simpa using h)
  simpa using this
set_option maxHeartbeats 2000000 in
theorem concatL_any (v : Value) (LL : List (Sv × List Sv)) (w : World) (hs : SlK kLn w v (LL.map Prod.fst)) (hr : ∀ x ∈ LL, SlK kSl w (sv x.1) x.2) (hl : (allOf LL).length ≤ 1000000) (hn : LL.length ≤ 1000) :
    Calls Try.prog 49 #[v] w fun e w' => ∃ v', e = .returned v' ∧ OwnK kSl w' w.heap.size v' (allOf LL) ∧ Below w.heap.size w w' := by
  obtain ⟨i0, hi, hz0, hz1, hz2⟩ := info_parts info_sl
  have hs' := hs
  obtain ⟨A, c, rfl, hc, ha⟩ := hs
  clear ha
  rw [List.length_map]
  rw [List.length_map] at hs' hc
  go_enter Try.func49, Try.ntmps49
  go_wp2
  go_loop [3, 11] (fun x z => ∃ k : Nat, k ≤ LL.length ∧ z = .int .i64 (k : Int) ∧ x = .int .i64 ((allOf (LL.take k)).length : Int)) (fun _ z => LL.length - (intOf z).toNat)
  case atStart => exact ⟨0, Nat.zero_le _, rfl, rfl⟩
  case round =>
    obtain ⟨k, hk, rfl, rfl⟩ := hrel
    by_cases hlt : k < LL.length
    · obtain ⟨b, o, rfl, hx⟩ := hs'.at_ k (by simpa using hlt)
      have hu := hx 0 (by decide)
      have hu' : w.cell? ⟨b, o + k, none⟩ = some (sv LL[k].1) := by
        have e : o + (k * kLn.sz + 0) = o + k := by show o + (k * 1 + 0) = _; omega
        rw [e] at hu
        rw [hu]; simp [kLn]
      obtain ⟨A2, c2, hv2⟩ := (hr _ (List.getElem_mem hlt)).shape
      rw [hv2] at hu'
      have hle := allOf_le LL k hlt
      have E := Lib.hid (show (allOf (LL.take (k + 1))).length = (allOf (LL.take k)).length + LL[k].2.length by rw [allOf_succ LL k hlt, List.length_append])
      clear hx hu hv2
      generalize (allOf (LL.take k)).length = n at hle E ⊢
      generalize LL[k].2.length = m at hle E hu'
      have hle2 : n + m ≤ 1000000 := by omega
      clear hle
      go_wp2
      go_round
      case rel => exact ⟨k + 1, by omega, by go_num, by rw [E.out]; go_num⟩
      case measure => simp [intOf]; omega
    · obtain rfl : k = LL.length := by omega
      have hL : (allOf (LL.take LL.length)).length ≤ 1000000 := by rw [List.take_length]; exact hl
      generalize (allOf (LL.take LL.length)).length = N at hL ⊢
      go_wp2_with fail
      refine ((growL_nil N _ (by omega)).mono ?_)
      rintro e w1 ⟨v1, rfl, ho1, hb1⟩
      have Ho1 := Lib.hid ho1
      clear ho1
      go_wp2
      go_loopw [6, 27] (fun x z wr => ∃ k : Nat, k ≤ LL.length ∧ z = .int .i64 (k : Int) ∧ OwnK kSl wr w.heap.size x (allOf (LL.take k)) ∧ Below w.heap.size w wr) (fun _ z _ => LL.length - (intOf z).toNat)
      case atStart => exact ⟨0, Nat.zero_le _, rfl, by simpa [allOf] using Ho1.out, hb1⟩
      case round =>
        clear Ho1 hb1 hk hlt
        obtain ⟨k, hk, rfl, ho, hb⟩ := hrel
        by_cases hlt : k < LL.length
        · obtain ⟨b, o, rfl, hx⟩ := (hs'.below hb).at_ k (by simpa using hlt)
          have hu := hx 0 (by decide)
          have hu' : wr.cell? ⟨b, o + k, none⟩ = some (sv LL[k].1) := by
            have e : o + (k * kLn.sz + 0) = o + k := by show o + (k * 1 + 0) = _; omega
            rw [e] at hu
            rw [hu]; simp [kLn]
          have hsu' := (hr _ (List.getElem_mem hlt)).below hb
          obtain ⟨A2, c2, hv2⟩ := hsu'.shape
          rw [hv2] at hu' hsu'
          have Hlen := Lib.hid (Nat.le_trans (allOf_le LL k hlt) hl)
          have hbw := hb.size
          clear hx hu hv2
          go_wp2_with (at_builtin; refine wpList_append_k (k := kSl) rfl _ _ 62 rfl w.heap.size i0 Try.underlying62 hi hz0 hz1 hz2 _ (allOf (LL.take k)) rfl ho _ LL[k].2 rfl hsu' (by have := Hlen.out; unfold maxLen; omega) (by have := Hlen.out; show _ * 24 ≤ _; omega) hbw ?_)
          intro v' w2 ho2 hg2 hn2
          have hb2 : Below w.heap.size wr w2 := (Below.refl _ wr).grown hg2 hbw (fun k hk => (ho.lt k hk).1)
          have Ho := Lib.hid ho2
          clear ho2 hg2 hn2
          go_wp2
          go_roundw
          case rel => exact ⟨k + 1, by omega, by go_num, by rw [allOf_succ LL k hlt]; exact Ho.out, hb.trans hb2⟩
          case measure => simp [intOf]; omega
        · obtain rfl : k = LL.length := by omega
          go_wp2
          go_ret
          rw [List.take_length] at ho
          exact ⟨_, rfl, ho, hb⟩
end Go.Proofs.Ytellbmghahgjfaa

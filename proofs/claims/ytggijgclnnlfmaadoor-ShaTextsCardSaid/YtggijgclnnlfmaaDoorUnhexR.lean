/-
  The walk of the document's Unhex.
-/
import Derived.Test.YtggijgclnnlfmaaDoorHexPlain
namespace Go.Proofs.YtggijgclnnlfmaaDoor
open Go.RowKit
set_option linter.unusedVariables false

theorem text_at (s : ByteArray) (i : Nat) (h : i < s.size) : s.data.toList.getD i 0 = s[i] := by
  have h' : i < s.data.size := h
  rw [List.getD_eq_getElem?_getD, Array.getElem?_toList, Array.getElem?_eq_getElem h', Option.getD_some]
  rfl
theorem hv_num {c : UInt8} (h1 : 48 ≤ c.toNat) (h2 : c.toNat ≤ 57) : hv c = some (c.toNat - 48) := by unfold hv; rw [if_pos ⟨h1, h2⟩]
theorem hv_let {c : UInt8} (h1 : 97 ≤ c.toNat) (h2 : c.toNat ≤ 102) : hv c = some (c.toNat - 87) := by unfold hv; rw [if_neg (by omega), if_pos ⟨h1, h2⟩]
theorem hv_no {c : UInt8} (h1 : ¬ (48 ≤ c.toNat ∧ c.toNat ≤ 57)) (h2 : ¬ (97 ≤ c.toNat ∧ c.toNat ≤ 102)) : hv c = none := by unfold hv; rw [if_neg h1, if_neg h2]

/-- What the document's Unhex answers. -/
def RefUnhexPost (l : List UInt8) (w : World) (e : Ending) (w' : World) : Prop :=
  ∃ v b, e = .returned (.tuple #[v, .bool b]) ∧ Below w.heap.size w w' ∧ ((∃ m, unhexB l = some m ∧ b = true ∧ Sl w' v m) ∨ (unhexB l = none ∧ b = false ∧ v = .slice none 0 0))

theorem int_eq {a b : Int} (h : a = b) : Value.int .i64 a = Value.int .i64 b := by rw [h]

set_option maxHeartbeats 2000000 in
theorem refUnhex_any (s : ByteArray) (w : World) (hl : s.size ≤ 20000) :
    Calls Tryd.prog 35 #[.string s] w (RefUnhexPost s.data.toList w) := by
  obtain ⟨i0, hi, hz0, hz1, hz2⟩ := info_parts info_u8
  by_cases hodd : s.size % 2 = 1
  · have h1 : (s.size : Int) % 2 = 1 := by omega
    have E := Lib.hid (show unhexB s.data.toList = none by unfold unhexB; rw [if_neg (by simp; omega)])
    go_enter Tryd.func35, Tryd.ntmps35
    go_wp2
    go_ret2
    exact ⟨_, _, rfl, Below.refl _ _, .inr ⟨E.out, rfl, rfl⟩⟩
  · have h1 : (s.size : Int) % 2 = 0 := by omega
    obtain ⟨n, hn⟩ : ∃ n, s.size = 2 * n := ⟨s.size / 2, by omega⟩
    have E := Lib.hid (show unhexB s.data.toList = unhexTo s.data.toList n by unfold unhexB; rw [if_pos (by simp; omega)]; congr 1; simp; omega)
    have HN := Lib.hid hn
    have hn' : n ≤ 10000 := by omega
    clear hn
    go_enter Tryd.func35, Tryd.ntmps35
    go_wp2
    clear h1
    go_loopw [4, 5] (fun x z wr => ∃ (k : Nat) (m : List UInt8), k ≤ n ∧ z = .int .i64 (2 * (k : Int)) ∧ unhexTo s.data.toList k = some m ∧ Own wr w.heap.size 5 x m ∧ Below w.heap.size w wr) (fun _ z _ => 2 * n - (intOf z).toNat)
    case atStart => exact ⟨0, [], Nat.zero_le _, rfl, rfl, Own.nil, Below.refl _ _⟩
    case round =>
      obtain ⟨k, m, hk, rfl, hm, ho, hb⟩ := hrel
      have hml := unhexTo_length _ _ _ hm
      have HM := Lib.hid hm
      have HML := Lib.hid hml
      clear hm hml
      by_cases hlt : k < n
      · have hlt2 : 2 * k + 2 ≤ s.size := by have := HN.out; omega
        have hlt3 : 2 * (k : Int) < (s.size : Int) := by omega
        have Ho := Lib.hid ho
        clear ho
        go_wp2
        go_loop [6, 7] (fun x z => ∃ (j v : Nat), j ≤ 2 ∧ z = .int .i64 (2 * (k : Int) + (j : Int)) ∧ x = .int .i64 (v : Int) ∧ cj s.data.toList k j = some v) (fun _ z => 2 * k + 2 - (intOf z).toNat)
        case atStart => exact ⟨0, 0, by omega, by simp, rfl, rfl⟩
        case round =>
          obtain ⟨j, v, hj, rfl, rfl, hv'⟩ := hrel
          have HV := Lib.hid hv'
          have hv256 := cj_lt _ _ _ _ hj hv'
          clear hv'
          by_cases hlj : j < 2
          · have hidx : 2 * k + j < s.size := by omega
            have HC := Lib.hid (text_at s (2 * k + j) hidx)
            have h256 : s[2 * k + j].toNat < 256 := s[2 * k + j].toNat_lt
            by_cases c1 : 48 ≤ s[2 * k + j].toNat
            · have c1' : (48 : Int) ≤ (s[2 * k + j].toNat : Int) := by omega
              by_cases c2 : s[2 * k + j].toNat ≤ 57
              · have c2' : (s[2 * k + j].toNat : Int) ≤ 57 := by omega
                have HS := Lib.hid (cj_step _ k j v _ hlj HV.out (by rw [HC.out]; exact hv_num c1 c2)).1
                go_wp2
                go_round
                case rel => exact ⟨j + 1, _, by omega, int_eq (by omega), int_eq (by omega), HS.out⟩
                case measure => simp [intOf]; omega
              · have c2' : ¬ (s[2 * k + j].toNat : Int) ≤ 57 := by omega
                by_cases c3 : 97 ≤ s[2 * k + j].toNat
                · have c3' : (97 : Int) ≤ (s[2 * k + j].toNat : Int) := by omega
                  by_cases c4 : s[2 * k + j].toNat ≤ 102
                  · have c4' : (s[2 * k + j].toNat : Int) ≤ 102 := by omega
                    have HS := Lib.hid (cj_step _ k j v _ hlj HV.out (by rw [HC.out]; exact hv_let c3 c4)).1
                    go_wp2
                    go_round
                    case rel => exact ⟨j + 1, _, by omega, int_eq (by omega), int_eq (by omega), HS.out⟩
                    case measure => simp [intOf]; omega
                  · have c4' : ¬ (s[2 * k + j].toNat : Int) ≤ 102 := by omega
                    have HX := Lib.hid (hv_no (c := s[2 * k + j]) (by omega) (by omega))
                    go_wp2
                    go_ret2
                    exact ⟨_, _, rfl, hb, .inr ⟨E.out.trans (unhexTo_pr_none _ k (cj_none _ k j hlj (by rw [HC.out]; exact HX.out)) n hlt), rfl, rfl⟩⟩
                · have c3' : ¬ (97 : Int) ≤ (s[2 * k + j].toNat : Int) := by omega
                  have HX := Lib.hid (hv_no (c := s[2 * k + j]) (by omega) (by omega))
                  go_wp2
                  go_ret2
                  exact ⟨_, _, rfl, hb, .inr ⟨E.out.trans (unhexTo_pr_none _ k (cj_none _ k j hlj (by rw [HC.out]; exact HX.out)) n hlt), rfl, rfl⟩⟩
            · have c1' : ¬ (48 : Int) ≤ (s[2 * k + j].toNat : Int) := by omega
              have c3' : ¬ (97 : Int) ≤ (s[2 * k + j].toNat : Int) := by omega
              have HX := Lib.hid (hv_no (c := s[2 * k + j]) (by omega) (by omega))
              go_wp2
              go_ret2
              exact ⟨_, _, rfl, hb, .inr ⟨E.out.trans (unhexTo_pr_none _ k (cj_none _ k j hlj (by rw [HC.out]; exact HX.out)) n hlt), rfl, rfl⟩⟩
          · obtain rfl : j = 2 := by omega
            have E3 := Lib.hid (cj_pr _ _ _ HV.out)
            have hbw := hb.size
            have Hlen := Lib.hid (show m.length + [UInt8.ofNat v].length ≤ 1000000000 by rw [HML.out]; simp; omega)
            have Hsl := Lib.hid (Sl.one wr 5 (v : Int) (UInt8.ofNat v) (by rw [UInt8.toNat_ofNat', Nat.mod_eq_of_lt hv256]))
            have ho := Ho.out
            clear Ho
            go_wp2_with (at_builtin; refine wpList_append_bytes _ rfl _ _ 25 rfl w.heap.size 5 i0 Tryd.underlying25 hi hz0 hz1 hz2 _ m rfl (ho.alloc _) _ [UInt8.ofNat v] rfl Hsl.out Hlen.out (by simp; omega) ?_)
            intro v' w2 ho2 hb2
            have Ho2 := Lib.hid ho2
            clear ho2
            go_wp2
            go_roundw
            case rel =>
              refine ⟨k + 1, m ++ [UInt8.ofNat v], by omega, int_eq (by omega), ?_, Ho2.out, (hb.alloc hbw _).trans hb2⟩
              unfold unhexTo
              rw [HM.out, E3.out]
            case measure => simp [intOf]; omega
      · obtain rfl : k = n := by omega
        have hlt3 : ¬ 2 * (k : Int) < (s.size : Int) := by have := HN.out; omega
        have Hs := Lib.hid ho.sl
        clear ho
        go_wp2
        go_ret2
        exact ⟨_, _, rfl, hb, .inl ⟨m, E.out.trans HM.out, rfl, Hs.out⟩⟩
end Go.Proofs.YtggijgclnnlfmaaDoor

/-
  The walks of sha.Start, sha.Constant, sha.Equal, and of what the laws hold against the chapter's rows.
-/
import Derived.Test.YtggijgclnnlfmaaDoorShaCode
import Derived.Lib.SlBytesConst
namespace Go.Proofs.YtggijgclnnlfmaaDoor
open Go.RowKit
set_option linter.unusedVariables false
set_option linter.unusedSimpArgs false

def startN (i : Int) : Nat := if i < 0 ∨ 7 < i then 0 else shaS.list.getD i.toNat 0
def constN (i : Int) : Nat := if i < 0 ∨ 63 < i then 0 else kAt i.toNat

theorem start_any (i : Int) (w : World) (hg : Gl w) : Calls Tryd.prog 21 #[.int .i64 i] w fun e w' => e = .returned (.int .u32 (startN i : Int)) ∧ w = w' := by
  by_cases h0 : i < 0
  · have E := Lib.hid (show startN i = 0 by unfold startN; rw [if_pos (.inl h0)])
    go_enter Tryd.func21, Tryd.ntmps21
    go_wp2
    go_ret
    exact ⟨ret_int (by rw [E.out]; rfl), rfl⟩
  · by_cases h8 : 8 ≤ i
    · have E := Lib.hid (show startN i = 0 by unfold startN; rw [if_pos (.inr (by omega))])
      have h0' : 0 ≤ i := by omega
      go_enter Tryd.func21, Tryd.ntmps21
      go_wp2
      go_ret
      exact ⟨ret_int (by rw [E.out]; rfl), rfl⟩
    · obtain ⟨k, rfl⟩ : ∃ k : Nat, i = k := ⟨i.toNat, by omega⟩
      have hk : k < 8 := by omega
      have hc := hg.s k _ (rowU_getD (l := shaS.list) hk)
      have E := Lib.hid (show startN (k : Int) = shaS.list.getD k 0 by unfold startN; rw [if_neg (by omega)]; rfl)
      generalize shaS.list.getD k 0 = x at hc E
      go_enter Tryd.func21, Tryd.ntmps21
      go_wp2
      go_ret
      exact ⟨ret_int (by rw [E.out]), rfl⟩
theorem constant_any (i : Int) (w : World) (hg : Gl w) : Calls Tryd.prog 23 #[.int .i64 i] w fun e w' => e = .returned (.int .u32 (constN i : Int)) ∧ w = w' := by
  by_cases h0 : i < 0
  · have E := Lib.hid (show constN i = 0 by unfold constN; rw [if_pos (.inl h0)])
    go_enter Tryd.func23, Tryd.ntmps23
    go_wp2
    go_ret
    exact ⟨ret_int (by rw [E.out]; rfl), rfl⟩
  · by_cases h8 : 64 ≤ i
    · have E := Lib.hid (show constN i = 0 by unfold constN; rw [if_pos (.inr (by omega))])
      have h0' : 0 ≤ i := by omega
      go_enter Tryd.func23, Tryd.ntmps23
      go_wp2
      go_ret
      exact ⟨ret_int (by rw [E.out]; rfl), rfl⟩
    · obtain ⟨k, rfl⟩ : ∃ k : Nat, i = k := ⟨i.toNat, by omega⟩
      have hk : k < 64 := by omega
      have hc := hg.k k hk
      have E := Lib.hid (show constN (k : Int) = kAt k by unfold constN; rw [if_neg (by omega)]; rfl)
      generalize kAt k = x at hc E
      go_enter Tryd.func23, Tryd.ntmps23
      go_wp2
      go_ret
      exact ⟨ret_int (by rw [E.out]), rfl⟩

theorem begins_row (T : Array Value) (a b c d : Int) (w : World) (hs : T.size = 32) (h0 : T[0]? = some (.int .u8 a)) (h1 : T[1]? = some (.int .u8 b)) (h2 : T[2]? = some (.int .u8 c)) (h3 : T[3]? = some (.int .u8 d)) (ho : T.all (·.oneCell') = true) :
    Calls Tryd.prog 25 #[.agg T, .int .u8 a, .int .u8 b, .int .u8 c, .int .u8 d] w fun e w' => e = .returned (.bool true) ∧ Below w.heap.size w w' := by
  have hi : (Tryd.prog.info? 28).map (·.size) = some T.size := by rw [info_h32, hs]
  have hB := Blk.new w 28 T
  have c0 := (hB.cell 0).trans h0
  have c1 := (hB.cell 1).trans h1
  have c2 := (hB.cell 2).trans h2
  have c3 := (hB.cell 3).trans h3
  have hb : Below w.heap.size w (w.alloc (.cells T 28)) := (Below.refl _ _).alloc (Nat.le_refl _) _
  go_enter Tryd.func25, Tryd.ntmps25
  go_wp2
  go_ret
  exact ⟨rfl, hb⟩
theorem begins_of (l : List UInt8) (hl : l.length = 32) (a b c d : UInt8) (h : l.take 4 = [a, b, c, d]) (A B C D : Int) (hA : A = (a.toNat : Int)) (hB : B = (b.toNat : Int)) (hC : C = (c.toNat : Int)) (hD : D = (d.toNat : Int)) (w : World) :
    Calls Tryd.prog 25 #[.agg (rowB l), .int .u8 A, .int .u8 B, .int .u8 C, .int .u8 D] w fun e w' => e = .returned (.bool true) ∧ Below w.heap.size w w' := by
  subst hA hB hC hD
  have hx : ∀ (i : Nat) (x : UInt8), [a, b, c, d][i]? = some x → (rowB l)[i]? = some (Value.int .u8 (x.toNat : Int)) := by
    intro i x hx
    rw [← h, List.getElem?_take] at hx
    split at hx
    · have e : (rowB l)[i]? = (l[i]?).map bv := by simp [rowB]
      rw [e, hx]; rfl
    · cases hx
  exact begins_row _ _ _ _ _ w (by rw [rowB_size, hl]) (hx 0 _ rfl) (hx 1 _ rfl) (hx 2 _ rfl) (hx 3 _ rfl) (rowB_one l)
theorem Gl.alloc {w : World} (h : Gl w) (o : Obj) : Gl (w.alloc o) := h.below ((Below.refl _ _).alloc (Nat.le_refl _) _)
/-- A new row of bytes, whatever its mark, as a slice. -/
theorem Sl.of_mark (w : World) (e : TypeId) (C : Array Value) (fr : Nat × Nat) (l : List UInt8) (n c : Nat) (hn : n = l.length) (hc : n ≤ c) (hC : C.toList = l.map bv) :
    Sl (w.alloc (.cells C e fr)) (.slice (some ⟨w.heap.size, 0, none⟩) n c) l := by
  subst hn
  refine ⟨_, c, rfl, hc, fun _ => ⟨w.heap.size, 0, rfl, fun j hj => ?_⟩⟩
  rw [World.cell?_alloc_mark, Nat.zero_add, ← Array.getElem?_toList, hC]
  simp [List.getElem?_eq_getElem hj, bv]
/-- A new row of bytes, and a new list of it alone. -/
theorem Sls.mark (w : World) (e e2 : TypeId) (C : Array Value) (fr : Nat × Nat) (l : List UInt8) (n c : Nat) (hn : n = l.length) (hc : n ≤ c) (hC : C.toList = l.map bv) :
    Sls ((w.alloc (.cells C e fr)).alloc (.cells #[.slice (some ⟨w.heap.size, 0, none⟩) n c] e2)) (.slice (some ⟨w.heap.size + 1, 0, none⟩) 1 1) [l] := by
  have h := Sls.one _ e2 _ _ (Sl.of_mark w e C fr l n c hn hc hC)
  rw [show (w.alloc (.cells C e fr)).heap.size = w.heap.size + 1 from by simp] at h
  exact h
/-- Two texts, and a list of the second one. -/
theorem Sls.mark2 (w : World) (e e2 : TypeId) (C0 C : Array Value) (f0 fr : Nat × Nat) (l : List UInt8) (n c : Nat) (hn : n = l.length) (hc : n ≤ c) (hC : C.toList = l.map bv) :
    Sls (((w.alloc (.cells C0 e f0)).alloc (.cells C e fr)).alloc (.cells #[.slice (some ⟨w.heap.size + 1, 0, none⟩) n c] e2)) (.slice (some ⟨w.heap.size + 1 + 1, 0, none⟩) 1 1) [l] := by
  have h := Sls.mark (w.alloc (.cells C0 e f0)) e e2 C fr l n c hn hc hC
  rw [show (w.alloc (.cells C0 e f0)).heap.size = w.heap.size + 1 from by simp] at h
  exact h
theorem below3 {w w' : World} (o1 o2 o3 : Obj) (h : Below ((((w.alloc o1).alloc o2).alloc o3)).heap.size (((w.alloc o1).alloc o2).alloc o3) w') : Below w.heap.size w w' :=
  ((((Below.refl _ _).alloc (Nat.le_refl _) _).alloc (by simp) _).alloc (by simp; omega) _).trans (h.mono (by simp; omega))
theorem below2 {w w' : World} (o1 o2 : Obj) (h : Below ((w.alloc o1).alloc o2).heap.size ((w.alloc o1).alloc o2) w') : Below w.heap.size w w' :=
  (((Below.refl _ _).alloc (Nat.le_refl _) _).alloc (by simp) _).trans (h.mono (by simp; omega))
theorem below1 {w w' : World} (o1 : Obj) (h : Below (w.alloc o1).heap.size (w.alloc o1) w') : Below w.heap.size w w' :=
  ((Below.refl _ _).alloc (Nat.le_refl _) _).trans (h.mono (by simp))
theorem kc_two (w : World) (C0 C : Array Value) (f0 : Nat × Nat) (n c : Nat) :
    (convert 25 25 (.slice (some ⟨w.heap.size + 1, 0, none⟩) n c)).run Tryd.prog ((w.alloc (.cells C0 5 f0)).alloc (.cells C 5)) = .ok (.slice (some ⟨w.heap.size + 1, 0, none⟩) n c) ((w.alloc (.cells C0 5 f0)).alloc (.cells C 5 (C.size, C.size + 1))) := by
  have h := Lib.run_convert_bytes_const (P := Tryd.prog) (w.alloc (.cells C0 5 f0)) 25 5 C n c Tryd.underlying25 Tryd.underlying5
  rw [show (w.alloc (.cells C0 5 f0)).heap.size = w.heap.size + 1 from by simp] at h
  exact h

set_option maxHeartbeats 1600000 in
theorem known_any (w : World) (hg : Gl w) : Calls Tryd.prog 9 #[] w fun e w' => e = .returned (.bool true) ∧ Below w.heap.size w w' := by
  have kc := fun (w : World) (C : Array Value) (n c : Nat) => Lib.run_convert_bytes_const (P := Tryd.prog) w 25 5 C n c Tryd.underlying25 Tryd.underlying5
  have kc2 := kc_two
  go_enter Tryd.func9, Tryd.ntmps9
  go_wp2_with fail
  refine (sum_any _ [] w (Sls.nil w none 0) (by decide) (by decide) hg).mono ?_
  rintro e w1 ⟨rfl, hb1⟩
  have hg1 := hg.below hb1
  clear hg
  go_wp2_with fail
  refine (begins_of _ (shaN_length _) 227 176 196 66 sha_none _ _ _ _ rfl rfl rfl rfl w1).mono ?_
  rintro e w2 ⟨rfl, hb2⟩
  have hg2 := hg1.below hb2
  have hb02 := hb1.trans (hb2.mono hb1.size)
  clear hg1 hb1 hb2
  go_wp2_with fail
  refine (sum_any _ [[97, 98, 99]] _ (Sls.mark w2 _ _ _ _ [97, 98, 99] 3 3 rfl (Nat.le_refl _) rfl) (by decide) (by decide) ((hg2.alloc _).alloc _)).mono ?_
  rintro e w4 ⟨rfl, hb4⟩
  have hb4' := below2 _ _ hb4
  have hg4 := hg2.below hb4'
  have hb04 := hb02.trans (hb4'.mono hb02.size)
  clear hg2 hb02 hb4 hb4'
  go_wp2_with fail
  refine (begins_of _ (shaN_length _) 186 120 22 191 sha_abc _ _ _ _ rfl rfl rfl rfl w4).mono ?_
  rintro e w5 ⟨rfl, hb5⟩
  have hg5 := hg4.below hb5
  have hb05 := hb04.trans (hb5.mono hb04.size)
  clear hg4 hb04 hb5
  go_wp2_with fail
  refine (code_any _ _ [74, 101, 102, 101] [[119, 104, 97, 116, 32, 100, 111, 32, 121, 97, 32, 119, 97, 110, 116, 32, 102, 111, 114, 32, 110, 111, 116, 104, 105, 110, 103, 63]] _ (((Sl.of_mark w5 _ _ _ [74, 101, 102, 101] 4 4 rfl (Nat.le_refl _) rfl).alloc _).alloc _) (Sls.mark2 w5 _ _ _ _ _ _ [119, 104, 97, 116, 32, 100, 111, 32, 121, 97, 32, 119, 97, 110, 116, 32, 102, 111, 114, 32, 110, 111, 116, 104, 105, 110, 103, 63] 28 28 rfl (Nat.le_refl _) rfl) (by decide) (by decide) (by decide) (((hg5.alloc _).alloc _).alloc _)).mono ?_
  rintro e w6 ⟨rfl, hb6⟩
  have hb6' := below3 _ _ _ hb6
  have hg6 := hg5.below hb6'
  have hb06 := hb05.trans (hb6'.mono hb05.size)
  clear hg5 hb05 hb6 hb6'
  go_wp2_with fail
  refine (begins_of _ (codeN_length _ _) 91 220 193 70 code_jefe _ _ _ _ rfl rfl rfl rfl w6).mono ?_
  rintro e w7 ⟨rfl, hb7⟩
  have hg7 := hg6.below hb7
  have hb07 := hb06.trans (hb7.mono hb06.size)
  clear hg6 hb06 hb7
  go_wp2_with fail
  refine (start_any 0 w7 hg7).mono ?_
  rintro e w8 ⟨rfl, rfl⟩
  go_wp2_with fail
  refine (constant_any 0 w7 hg7).mono ?_
  rintro e w8 ⟨rfl, rfl⟩
  go_wp2
  go_ret
  exact ⟨rfl, hb07⟩
end Go.Proofs.YtggijgclnnlfmaaDoor

/-
  Disk, plainly: files by rising names as a list, found, put, taken away; a map's datum made of such a list. No program is named here.
-/
import Derived.Maps.RangeWalk
import Derived.Maps.OwnSet
import Derived.Maps.OwnOps
import Derived.Sort.KeysCollected
import Derived.Test.YtibifnknkphanaaGreatDoorMem
import Derived.Lib.ConvBytes
import Derived.Carry
import Derived.StillTailTactics
import Derived.Shelf.Abstract
namespace Go.Proofs.YtibifnknkphanaaGreatDoor.DskM
open Go Go.Maps
set_option linter.unusedVariables false
set_option linter.unusedSimpArgs false

abbrev Nm := List UInt8
/-- A file: its name, its bytes, how many of them last, the block in which it stands, its bytes' slice. -/
structure Fo where
  nm : Nm
  bs : List UInt8
  la : Nat
  g : Nat
  v : Value
/-- .. of which nothing but the name, the bytes and how many last are told. -/
abbrev Fp := Nm × List UInt8 × Nat
def Fo.p (f : Fo) : Fp := (f.nm, f.bs, f.la)

def Lt (a b : Nm) : Prop := bytesBefore a b = true
instance (a b : Nm) : Decidable (Lt a b) := by unfold Lt; infer_instance
theorem Lt.irrefl (a : Nm) : ¬ Lt a a := by unfold Lt; rw [WideAt.bytes_irrefl]; simp
theorem Lt.trans {a b c : Nm} (h : Lt a b) (k : Lt b c) : Lt a c := WideShapes.bytes_trans a b c h k
theorem Lt.total {a b : Nm} (h : a ≠ b) : Lt a b ∨ Lt b a := WideAt.bytes_total a b h
theorem Lt.asymm {a b : Nm} (h : Lt a b) : ¬ Lt b a := fun k => Lt.irrefl _ (h.trans k)
theorem Lt.ne {a b : Nm} (h : Lt a b) : a ≠ b := fun e => Lt.irrefl b (e ▸ h)

/-- Files by rising names. -/
def Rise (L : List Fo) : Prop := L.Pairwise fun a b => Lt a.nm b.nm
def find (L : List Fo) (n : Nm) : Option Fo := L.find? fun f => f.nm == n
def del (L : List Fo) (n : Nm) : List Fo := L.filter fun f => !(f.nm == n)
def ins (x : Fo) : List Fo → List Fo
  | [] => [x]
  | y :: r => if bytesBefore x.nm y.nm then x :: y :: r else y :: ins x r
/-- The file of that name turned. -/
def upd (L : List Fo) (n : Nm) (h : Fo → Fo) : List Fo := L.map fun f => if f.nm = n then h f else f
def total (L : List Fo) : Nat := (L.map fun f => f.bs.length).sum

theorem find_mem {L : List Fo} {n : Nm} {f : Fo} (h : find L n = some f) : f ∈ L ∧ f.nm = n :=
  ⟨List.mem_of_find?_eq_some h, by have := List.find?_some h; simpa using this⟩
theorem find_none {L : List Fo} {n : Nm} : find L n = none ↔ ∀ f ∈ L, f.nm ≠ n := by
  unfold find
  rw [List.find?_eq_none]
  simp
theorem rise_one : ∀ {L : List Fo}, Rise L → ∀ {f f' : Fo}, f ∈ L → f' ∈ L → f.nm = f'.nm → f = f'
  | [], _, _, _, hf, _, _ => by cases hf
  | x :: L, h, f, f', hf, hf', e => by
    obtain ⟨h1, h2⟩ := List.pairwise_cons.1 h
    rcases List.mem_cons.1 hf with ef | hf1 <;> rcases List.mem_cons.1 hf' with ef' | hf1'
    · rw [ef, ef']
    · subst ef; exact absurd e (h1 _ hf1').ne
    · subst ef'; exact absurd e.symm (h1 _ hf1).ne
    · exact rise_one h2 hf1 hf1' e
theorem find_of_mem {L : List Fo} (h : Rise L) {f : Fo} (hf : f ∈ L) : find L f.nm = some f := by
  cases hc : find L f.nm with
  | none => exact absurd rfl (find_none.1 hc f hf)
  | some f' =>
    obtain ⟨h1, h2⟩ := find_mem hc
    rw [rise_one h hf h1 h2.symm]
theorem mem_ins {x y : Fo} : ∀ {L : List Fo}, y ∈ ins x L ↔ y = x ∨ y ∈ L
  | [] => by simp [ins]
  | z :: L => by
    unfold ins
    split
    · simp
    · rw [List.mem_cons, mem_ins, List.mem_cons]
      constructor
      · rintro (h | h | h)
        · exact .inr (.inl h)
        · exact .inl h
        · exact .inr (.inr h)
      · rintro (h | h | h)
        · exact .inr (.inl h)
        · exact .inl h
        · exact .inr (.inr h)
theorem mem_del {n : Nm} {y : Fo} {L : List Fo} : y ∈ del L n ↔ y ∈ L ∧ y.nm ≠ n := by simp [del]
theorem rise_del {L : List Fo} (h : Rise L) (n : Nm) : Rise (del L n) := h.filter _
theorem rise_ins {x : Fo} : ∀ {L : List Fo}, Rise L → (∀ y ∈ L, y.nm ≠ x.nm) → Rise (ins x L)
  | [], _, _ => List.pairwise_singleton _ _
  | z :: L, h, hn => by
    obtain ⟨h1, h2⟩ := List.pairwise_cons.1 h
    unfold ins
    split
    · rename_i hb
      exact List.pairwise_cons.2 ⟨fun y hy => by
        rcases List.mem_cons.1 hy with rfl | hy
        · exact hb
        · exact Lt.trans hb (h1 y hy), h⟩
    · rename_i hb
      have hz : Lt z.nm x.nm := (Lt.total (hn z (List.mem_cons_self ..))).resolve_right hb
      refine List.pairwise_cons.2 ⟨fun y hy => ?_, rise_ins h2 fun y hy => hn y (List.mem_cons_of_mem _ hy)⟩
      rcases mem_ins.1 hy with rfl | hy
      · exact hz
      · exact h1 y hy
theorem mem_upd {L : List Fo} {n : Nm} {h : Fo → Fo} {y : Fo} : y ∈ upd L n h ↔ ∃ f ∈ L, y = if f.nm = n then h f else f := by
  unfold upd
  rw [List.mem_map]
  exact ⟨fun ⟨f, a, b⟩ => ⟨f, a, b.symm⟩, fun ⟨f, a, b⟩ => ⟨f, a, b.symm⟩⟩
theorem upd_nm {L : List Fo} {n : Nm} {h : Fo → Fo} (hh : ∀ f, (h f).nm = f.nm) : (upd L n h).map Fo.nm = L.map Fo.nm := by
  unfold upd
  rw [List.map_map]
  refine List.map_congr_left fun f _ => ?_
  simp only [Function.comp_apply]
  split
  · exact hh f
  · rfl
theorem upd_g {L : List Fo} {n : Nm} {h : Fo → Fo} (hh : ∀ f, (h f).g = f.g) : (upd L n h).map Fo.g = L.map Fo.g := by
  unfold upd
  rw [List.map_map]
  refine List.map_congr_left fun f _ => ?_
  simp only [Function.comp_apply]
  split
  · exact hh f
  · rfl
theorem rise_iff {L : List Fo} : Rise L ↔ (L.map Fo.nm).Pairwise Lt := by unfold Rise; rw [List.pairwise_map]
theorem rise_upd {L : List Fo} {n : Nm} {h : Fo → Fo} (hr : Rise L) (hh : ∀ f, (h f).nm = f.nm) : Rise (upd L n h) := by
  rw [rise_iff, upd_nm hh, ← rise_iff]; exact hr
theorem len_ins (x : Fo) : ∀ L : List Fo, (ins x L).length = L.length + 1
  | [] => rfl
  | y :: L => by
    unfold ins
    split
    · rfl
    · rw [List.length_cons, len_ins x L, List.length_cons]
theorem total_ins (x : Fo) : ∀ L : List Fo, total (ins x L) = x.bs.length + total L
  | [] => by simp [ins, total]
  | y :: L => by
    unfold ins
    split
    · simp [total]
    · have := total_ins x L
      unfold total at this ⊢
      rw [List.map_cons, List.sum_cons, this, List.map_cons, List.sum_cons]; omega
theorem total_upd {n : Nm} {h : Fo → Fo} {f : Fo} : ∀ {L : List Fo}, Rise L → f ∈ L → f.nm = n → total (upd L n h) + f.bs.length = total L + (h f).bs.length
  | [], _, hf, _ => by cases hf
  | y :: L, hr, hf, e => by
    obtain ⟨h1, h2⟩ := List.pairwise_cons.1 hr
    rcases List.mem_cons.1 hf with rfl | hf
    · have hrest : upd L n h = L := by
        unfold upd
        refine (List.map_congr_left fun z hz => ?_).trans (List.map_id L)
        rw [if_neg fun e2 => (h1 z hz).ne (e.trans e2.symm)]; rfl
      have : upd (f :: L) n h = h f :: L := by
        have : upd (f :: L) n h = (if f.nm = n then h f else f) :: upd L n h := rfl
        rw [this, if_pos e, hrest]
      rw [this]
      simp [total]; omega
    · have ih := total_upd (h := h) h2 hf e
      have hy : y.nm ≠ n := fun e2 => (h1 f hf).ne (e2.trans e.symm)
      have : upd (y :: L) n h = y :: upd L n h := by
        have : upd (y :: L) n h = (if y.nm = n then h y else y) :: upd L n h := rfl
        rw [this, if_neg hy]
      rw [this]
      simp [total] at ih ⊢
      omega
theorem total_del {n : Nm} {f : Fo} : ∀ {L : List Fo}, Rise L → f ∈ L → f.nm = n → total (del L n) + f.bs.length = total L
  | [], _, hf, _ => by cases hf
  | y :: L, hr, hf, e => by
    obtain ⟨h1, h2⟩ := List.pairwise_cons.1 hr
    rcases List.mem_cons.1 hf with rfl | hf
    · have hrest : del L n = L := by
        unfold del
        refine List.filter_eq_self.2 fun z hz => ?_
        have := (h1 z hz).ne
        simp; intro e2; exact this (e.trans e2.symm)
      have : del (f :: L) n = L := by
        show (f :: L).filter _ = L
        rw [List.filter_cons_of_neg (by simp [e])]
        exact hrest
      rw [this]
      simp [total]; omega
    · have ih := total_del h2 hf e
      have hy : y.nm ≠ n := fun e2 => (h1 f hf).ne (e2.trans e.symm)
      have : del (y :: L) n = y :: del L n := by
        show (y :: L).filter _ = _
        rw [List.filter_cons_of_pos (by simp [hy])]; rfl
      rw [this]
      simp [total] at ih ⊢
      omega

/-! A map's datum of such a list: the names are the keys, each element's number is its block's. -/
def enc (f : Fo) : Lit × DataW Unit := (.string f.nm, .lit (.int .i64 (f.g : Int)))
def DE (L : List Fo) : DataW Unit := .map (L.map enc)
/-- What a pointer of the map reads as. -/
def ptrR : Value → Option (DataW Unit × List MemPlace)
  | .pointer none => some (.nil, [])
  | .pointer (some ⟨g, 0, none⟩) => some (.lit (.int .i64 (g : Int)), [])
  | _ => none
theorem ptrR_nil : ptrR (.pointer none) = some (.nil, []) := rfl
theorem ptrR_some (g : Nat) : ptrR (.pointer (some ⟨g, 0, none⟩)) = some (.lit (.int .i64 (g : Int)), []) := rfl
theorem ptrR_inv {v : Value} {y : DataW Unit × List MemPlace} (h : ptrR v = some y) : (v = .pointer none ∧ y.1 = .nil) ∨ ∃ g : Nat, v = .pointer (some ⟨g, 0, none⟩) ∧ y.1 = .lit (.int .i64 (g : Int)) := by
  unfold ptrR at h
  split at h
  · cases h; exact .inl ⟨rfl, rfl⟩
  · cases h; exact .inr ⟨_, rfl, rfl⟩
  · cases h

theorem insert_enc (x : Fo) : ∀ L : List Fo, DataW.insert (enc x) (L.map enc) = (ins x L).map enc
  | [] => rfl
  | y :: L => by
    show (if (enc x).1.before (enc y).1 then enc x :: enc y :: L.map enc else enc y :: DataW.insert (enc x) (L.map enc)) = (if bytesBefore x.nm y.nm then x :: y :: L else y :: ins x L).map enc
    rw [insert_enc x L]
    show (if bytesBefore x.nm y.nm then _ else _) = _
    split <;> rfl
theorem del_DE (L : List Fo) (n : Nm) : (DE L).del (.string n) = DE (del L n) := by
  unfold DE del
  rw [DataW.del_eq]
  congr 1
  unfold ChangeMaps.delKey
  rw [List.filter_map]
  rfl
theorem put_DE (L : List Fo) (x : Fo) : (DE L).put (.string x.nm) (.lit (.int .i64 (x.g : Int))) = DE (ins x (del L x.nm)) := by
  have h := del_DE L x.nm
  unfold DE at h ⊢
  rw [DataW.put_eq]
  congr 1
  rw [DataW.del_eq] at h
  injection h with h
  unfold ChangeMaps.putKey
  unfold ChangeMaps.delKey at h
  rw [h]
  exact insert_enc x _
theorem atKey_DE (L : List Fo) (n : Nm) (z : DataW Unit) : (DE L).atKey (.string n) z = match find L n with | some f => .lit (.int .i64 (f.g : Int)) | none => z := by
  have h : ((L.map enc).find? fun p => p.1.sameKey (.string n)) = (find L n).map enc := by
    rw [List.find?_map]
    rfl
  unfold DE DataW.atKey
  simp only [h]
  cases find L n <;> rfl
theorem size_DE (L : List Fo) : Maps.size (DE L) = L.length := by simp [DE, Maps.size]
theorem keys_DE (L : List Fo) : strKeys (DE L) = L.map Fo.nm := by
  unfold DE strKeys
  simp only [List.map_map]
  rfl
theorem has_DE (L : List Fo) (n : Nm) : Maps.has (DE L) (.string n) = (find L n).isSome := by
  unfold DE
  rw [Maps.has_eq, List.any_map]
  unfold find
  rw [List.isSome_find?]
  rfl
end Go.Proofs.YtibifnknkphanaaGreatDoor.DskM

namespace Go.Proofs.YtibifnknkphanaaGreatDoor
open Go.RowKit
open DskM
set_option linter.unusedVariables false
set_option linter.unusedSimpArgs false
set_option maxRecDepth 20000

/-- May a name have this byte? -/
def okC (c : Nat) : Bool := decide (97 ≤ c ∧ c ≤ 122 ∨ 48 ≤ c ∧ c ≤ 57 ∨ c = 46 ∨ c = 45)
/-- May it be a name? -/
def mayB (l : List UInt8) : Bool := decide (1 ≤ l.length ∧ l.length ≤ 32 ∧ ∀ c ∈ l, okC c.toNat = true)
theorem mayB_iff {l : List UInt8} : mayB l = true ↔ 1 ≤ l.length ∧ l.length ≤ 32 ∧ ∀ c ∈ l, okC c.toNat = true := by unfold mayB; rw [decide_eq_true_iff]
theorem okC_parts (c : Nat) : (okC c = true ∧ ((97 ≤ c ∧ c ≤ 122) ∨ (48 ≤ c ∧ c ≤ 57) ∨ c = 46 ∨ c = 45)) ∨ (okC c = false ∧ (c ≤ 44 ∨ c = 47 ∨ (58 ≤ c ∧ c ≤ 96) ∨ 123 ≤ c)) := by
  unfold okC
  by_cases h : 97 ≤ c ∧ c ≤ 122 ∨ 48 ≤ c ∧ c ≤ 57 ∨ c = 46 ∨ c = 45
  · exact .inl ⟨decide_eq_true h, h⟩
  · exact .inr ⟨decide_eq_false h, by omega⟩
def byteAt (s : ByteArray) (k : Nat) : Nat := (s.data.toList.getD k 0).toNat
theorem may_size {s : ByteArray} (h : mayB s.data.toList = true) : s.size ≤ 32 := by
  have := (mayB_iff.1 h).2.1
  simpa using this

theorem may_all {s : ByteArray} (h1 : 1 ≤ s.size) (h2 : s.size ≤ 32) (h : ∀ k, k < s.size → okC (byteAt s k) = true) : mayB s.data.toList = true := by
  refine mayB_iff.2 ⟨by simpa using h1, by simpa using h2, fun c hc => ?_⟩
  obtain ⟨i, hi, rfl⟩ := List.getElem_of_mem hc
  have := h i (by simpa using hi)
  unfold byteAt at this
  rw [List.getD_eq_getElem?_getD, List.getElem?_eq_getElem hi] at this
  exact this
theorem may_not {s : ByteArray} {k : Nat} (hk : k < s.size) (h : okC (byteAt s k) = false) : mayB s.data.toList = false := by
  cases hm : mayB s.data.toList with
  | false => rfl
  | true =>
    have hi : k < s.data.toList.length := by simpa using hk
    have := (mayB_iff.1 hm).2.2 s.data.toList[k] (List.getElem_mem hi)
    unfold byteAt at h
    rw [List.getD_eq_getElem?_getD, List.getElem?_eq_getElem hi] at h
    have h2 : okC s.data.toList[k].toNat = false := h
    rw [h2] at this
    cases this

theorem ret_b {a b : Bool} (h : a = b) : Ending.returned (.bool a) = .returned (.bool b) := by rw [h]

set_option maxHeartbeats 2000000 in
theorem mayName_any (s : ByteArray) (w : World) : Calls Tryz.prog 54 #[.string s] w fun e w' => e = .returned (.bool (mayB s.data.toList)) ∧ Below w.heap.size w w' := by
  by_cases h1 : 1 ≤ s.size
  · by_cases h2 : s.size ≤ 32
    · have H1 := Lib.hid h1
      have H2 := Lib.hid h2
      have t1 : decide ((s.size : Int) < 1) = false := decide_eq_false (by omega)
      have t2 : decide ((32 : Int) < (s.size : Int)) = false := decide_eq_false (by omega)
      have hcv := Lib.run_convert_string_bytes (P := Tryz.prog) w 9 22 5 s Tryz.underlying9 Tryz.underlying22 Tryz.underlying5
      have hcell : ∀ k, k < s.size → (Lib.bytesWorld w 5 s).cell? ⟨w.heap.size, k, none⟩ = some (.int .u8 (byteAt s k : Int)) := fun k hk => Lib.bytesWorld_cell w 5 s k hk
      have hb : Below w.heap.size w (Lib.bytesWorld w 5 s) := ⟨rfl, rfl, rfl, by rw [Lib.bytesWorld_size]; omega, fun k hk => Lib.bytesWorld_at_old w _ s k hk⟩
      generalize hW : Lib.bytesWorld w 5 s = W at hcv hcell hb
      generalize grownCap w s.size 0 5 = C at hcv
      have HC := Lib.hid hcell
      clear h1 h2 hcell hW
      go_enter Tryz.func54, Tryz.ntmps54
      go_wp2
      clear hcv t1 t2
      go_loop [16] (fun i => ∃ k : Nat, k ≤ s.size ∧ i = .int .i64 (k : Int) ∧ ∀ j, j < k → okC (byteAt s j) = true) (fun i => s.size - (intOf i).toNat)
      case atStart => exact ⟨0, Nat.zero_le _, rfl, fun j h => absurd h (by omega)⟩
      case round =>
        obtain ⟨k, hk, rfl, hall⟩ := hrel
        have HALL := Lib.hid hall
        clear hall
        by_cases hlt : k < s.size
        · have hx := HC.out k hlt
          obtain ⟨c, hc⟩ : ∃ c, c = byteAt s k := ⟨_, rfl⟩
          rw [← hc] at hx
          have HK := Lib.hid hc
          have hlt' : (k : Int) < (s.size : Int) := by omega
          have h32 := H2.out
          clear hc
          rcases okC_parts c with ⟨hok, hr⟩ | ⟨hok, hr⟩
          · have HOK := Lib.hid hok
            clear hok
            rcases hr with ⟨a, b⟩ | ⟨a, b⟩ | rfl | rfl
            all_goals
              go_wp2
              go_round
              case rel =>
                refine ⟨k + 1, by omega, by go_num, fun j hj => ?_⟩
                rcases Nat.lt_or_ge j k with h | h
                · exact HALL.out j h
                · obtain rfl : j = k := by omega
                  rw [← HK.out]; exact HOK.out
              case measure => simp [intOf]; omega
          · have HOK := Lib.hid hok
            clear hok
            have hno : mayB s.data.toList = false := may_not hlt (by rw [← HK.out]; exact HOK.out)
            have HNO := Lib.hid hno
            clear hno
            have e46 : ((c : Int) == 46) = false := by rw [beq_eq_false_iff_ne]; omega
            have e45 : ((c : Int) == 45) = false := by rw [beq_eq_false_iff_ne]; omega
            rcases hr with a | rfl | ⟨a, b⟩ | a
            · go_wp2
              go_ret
              exact ⟨ret_b HNO.out.symm, hb⟩
            · go_wp2
              go_ret
              exact ⟨ret_b HNO.out.symm, hb⟩
            · have d57 : decide ((c : Int) ≤ 57) = false := decide_eq_false (by omega)
              go_wp2
              go_ret
              exact ⟨ret_b HNO.out.symm, hb⟩
            · have d57 : decide ((c : Int) ≤ 57) = false := decide_eq_false (by omega)
              have d122 : decide ((c : Int) ≤ 122) = false := decide_eq_false (by omega)
              go_wp2
              go_ret
              exact ⟨ret_b HNO.out.symm, hb⟩
        · obtain rfl : k = s.size := by omega
          have hyes := may_all H1.out H2.out HALL.out
          have HY := Lib.hid hyes
          clear hyes hlt hk
          go_wp2
          go_ret
          exact ⟨ret_b HY.out.symm, hb⟩
    · have t1 : decide ((s.size : Int) < 1) = false := decide_eq_false (by omega)
      have t2 : decide ((32 : Int) < (s.size : Int)) = true := decide_eq_true (by omega)
      have hno : mayB s.data.toList = false := by
        cases hm : mayB s.data.toList with
        | false => rfl
        | true => exact absurd (may_size hm) h2
      have HNO := Lib.hid hno
      clear h1 h2 hno
      go_enter Tryz.func54, Tryz.ntmps54
      go_wp2
      go_ret
      exact ⟨ret_b HNO.out.symm, Below.refl _ _⟩
  · have t1 : decide ((s.size : Int) < 1) = true := decide_eq_true (by omega)
    have hno : mayB s.data.toList = false := by
      cases hm : mayB s.data.toList with
      | false => rfl
      | true =>
        have h3 : 1 ≤ s.size := by simpa using (mayB_iff.1 hm).1
        exact absurd h3 h1
    have HNO := Lib.hid hno
    clear h1 hno
    go_enter Tryz.func54, Tryz.ntmps54
    go_wp2
    go_ret
    exact ⟨ret_b HNO.out.symm, Below.refl _ _⟩
end Go.Proofs.YtibifnknkphanaaGreatDoor

namespace Go.Proofs.YtibifnknkphanaaGreatDoor
open Go.RowKit Go.Maps
open DskM
set_option linter.unusedVariables false
set_option linter.unusedSimpArgs false

/-! What is kept from world to world: all blocks but those of S. -/
structure Keep (S : Nat → Prop) (w w' : World) : Prop where
  os : w'.os = w.os
  tape : w'.tape = w.tape
  output : w'.output = w.output
  size : w.heap.size ≤ w'.heap.size
  block : ∀ k, k < w.heap.size → ¬ S k → w'.heap[k]? = w.heap[k]?
theorem Keep.of_below {S : Nat → Prop} {w w' : World} (h : Below w.heap.size w w') : Keep S w w' := ⟨h.os, h.tape, h.output, h.size, fun k hk _ => h.block k hk⟩
theorem Keep.refl (S : Nat → Prop) (w : World) : Keep S w w := .of_below (Below.refl _ _)
theorem Keep.trans {S T U : Nat → Prop} {a b c : World} (h : Keep S a b) (k : Keep T b c) (hS : ∀ i, S i → U i) (hT : ∀ i, i < a.heap.size → T i → U i) : Keep U a c :=
  ⟨k.os.trans h.os, k.tape.trans h.tape, k.output.trans h.output, Nat.le_trans h.size k.size, fun i hi hn => (k.block i (Nat.lt_of_lt_of_le hi h.size) fun ht => hn (hT i hi ht)).trans (h.block i hi fun hs => hn (hS i hs))⟩
theorem Keep.below {S : Nat → Prop} {B : Nat} {a b c : World} (h : Below B a b) (k : Keep S b c) (hB : B ≤ b.heap.size) (hS : ∀ i, S i → B ≤ i) : Below B a c :=
  ⟨k.os.trans h.os, k.tape.trans h.tape, k.output.trans h.output, Nat.le_trans h.size k.size, fun i hi => (k.block i (by omega) fun hs => by have := hS i hs; omega).trans (h.block i hi)⟩
theorem Keep.of_grown {S : Nat → Prop} {w w' : World} {row : Option Nat} (h : w.grownBy w' row) (hr : ∀ k, row = some k → S k) : Keep S w w' :=
  ⟨h.os, h.tape, h.output, h.size, fun k hk hn => h.block k hk fun e => hn (hr k e.symm)⟩
theorem Keep.setCell {S : Nat → Prop} (w : World) (p : Addr) (u : Value) (hS : S p.block) : Keep S w (w.setCell p u) :=
  ⟨rfl, rfl, rfl, Nat.le_of_eq (by unfold World.setCell; simp), fun k hk hn => Below.heap_setCell w p u k fun e => hn (e ▸ hS)⟩
theorem Keep.cell {S : Nat → Prop} {w w' : World} (h : Keep S w w') {p : Addr} {u : Value} (hu : w.cell? p = some u) (hn : ¬ S p.block) : w'.cell? p = some u :=
  (World.cell?_of_block (h.block p.block (World.block_lt_of_cell? w p hu) hn)).trans hu
theorem Keep.mono {S T : Nat → Prop} {w w' : World} (h : Keep S w w') (hT : ∀ i, S i → T i) : Keep T w w' :=
  ⟨h.os, h.tape, h.output, h.size, fun k hk hn => h.block k hk fun e => hn (hT k e)⟩
theorem Blk.kept {S : Nat → Prop} {w w' : World} {g : Nat} {t : TypeId} {cs : Array Value} (h : Blk w g t cs) (k : Keep S w w') (hn : ¬ S g) : Blk w' g t cs := (k.block g h.lt hn).trans h
theorem Own.keep {w w' : World} {base : Nat} {e : TypeId} {v : Value} {l : List UInt8} (h : Own w base e v l) (hk : ∀ k, v.ownBlock = some k → w'.heap[k]? = w.heap[k]?) : Own w' base e v l := by
  refine ⟨h.1, ?_⟩
  rcases h.2 with h2 | ⟨g, cap, cur, rfl, hg, hh, r⟩
  · exact Or.inl h2
  · exact Or.inr ⟨g, cap, cur, rfl, hg, (hk g rfl).trans hh, r⟩
theorem Own.lt {w : World} {base : Nat} {e : TypeId} {v : Value} {l : List UInt8} (h : Own w base e v l) : ∀ k, v.ownBlock = some k → base ≤ k ∧ k < w.heap.size := World.ownsRow.lt h
theorem Own.kept {S : Nat → Prop} {w w' : World} {base : Nat} {e : TypeId} {v : Value} {l : List UInt8} (h : Own w base e v l) (k : Keep S w w') (hn : ∀ i, v.ownBlock = some i → ¬ S i) : Own w' base e v l :=
  h.keep fun i hi => k.block i (h.lt i hi).2 (hn i hi)
theorem Own.isRow {w : World} {base : Nat} {e : TypeId} {v : Value} {l : List UInt8} (h : Own w base e v l) {i : Nat} (hi : v.ownBlock = some i) : ∃ cs, Blk w i e cs := by
  rcases h.2 with ⟨rfl, _⟩ | ⟨g, cap, cur, rfl, _, hh, _⟩
  · cases hi
  · simp [Value.ownBlock] at hi
    subst hi
    exact ⟨cur, hh⟩

/-! Maps. -/
theorem ownsMap_kept {H : Type} {S : Nat → Prop} {w w' : World} {P : Program} {k : TypeId} {R : Value → Option (DataW H × List MemPlace)} {b n : Nat} {D : DataW H} (h : w.ownsMap P k R b n D) (hk : Keep S w w') (hn : ¬ S b) : w'.ownsMap P k R b n D := by
  have hlt := h.lt
  obtain ⟨es, clock, hb, F, hs, hD⟩ := h
  exact ⟨es, clock, (hk.block b hlt hn).trans hb, F, hs, hD⟩
theorem ownsMap_exact {H : Type} {w : World} {P : Program} {k : TypeId} {R : Value → Option (DataW H × List MemPlace)} {b n : Nat} {D : DataW H} (h : w.ownsMap P k R b n D) : w.ownsMap P k R b (Maps.size D) D := by
  obtain ⟨es, clock, hb, F, hs, rfl⟩ := h
  refine ⟨es, clock, hb, F, ?_, rfl⟩
  show es.size ≤ List.length _
  rw [length_read]
  exact Nat.le_refl _
theorem ownsMap_notcells {H : Type} {w : World} {P : Program} {k : TypeId} {R : Value → Option (DataW H × List MemPlace)} {b n : Nat} {D : DataW H} (h : w.ownsMap P k R b n D) {g : Nat} {t : TypeId} {cs : Array Value} (hg : Blk w g t cs) : b ≠ g := by
  rintro rfl
  obtain ⟨es, clock, hb, _⟩ := h
  unfold Blk at hg
  rw [hb] at hg
  cases hg

theorem strKey : Keyed Tryz.prog 9 := string_keyed Tryz.underlying9
theorem zeroFile (w : World) : (zeroValue 108).run Tryz.prog w = .ok (.pointer none) w := by kernel_rfl
/-- The pointer to a file, or none. -/
def ptrOf : Option Fo → Value
  | some f => .pointer (some ⟨f.g, 0, none⟩)
  | none => .pointer none

/-! Files and disks. -/
def foc (f : Fo) : Array Value := #[f.v, .int .i64 (f.la : Int)]
structure FoAt (w : World) (f : Fo) : Prop where
  blk : Blk w f.g 110 (foc f)
  row : Own w 0 5 f.v f.bs
  la : f.la ≤ f.bs.length
  may : mayB f.nm = true
/-- A disk's own numbers. -/
structure Ds where
  cap : Nat
  fuse : Int
  dead : Bool
  wr : Nat
def dkc (S : Ds) (m : Nat) : Array Value := #[.int .i64 (S.cap : Int), .map (some m), .int .i64 S.fuse, .bool S.dead, .int .i64 (S.wr : Int)]
structure Dk (w : World) (p m : Nat) (S : Ds) (L : List Fo) : Prop where
  blk : Blk w p 54 (dkc S m)
  map : w.ownsMap Tryz.prog 9 ptrR m L.length (DE L)
  rise : Rise L
  file : ∀ f ∈ L, FoAt w f
  apart : ∀ f ∈ L, ∀ f' ∈ L, f.nm ≠ f'.nm → f.g ≠ f'.g ∧ ∀ i, f.v.ownBlock = some i → f'.v.ownBlock ≠ some i
  cap1 : 1 ≤ S.cap
  cap2 : S.cap ≤ 16777216
  room : total L ≤ S.cap
  few : L.length ≤ 64
  fuse1 : -9223372036854775808 ≤ S.fuse
  fuse2 : S.fuse ≤ 9223372036854775807
/-- The blocks in which a disk stands. -/
def Foot (p m : Nat) (L : List Fo) : Nat → Prop := fun i => i = p ∨ i = m ∨ ∃ f ∈ L, i = f.g ∨ f.v.ownBlock = some i
section
variable {w w' : World} {p m : Nat} {S : Ds} {L : List Fo}
theorem FoAt.kept {T : Nat → Prop} {f : Fo} (h : FoAt w f) (k : Keep T w w') (h1 : ¬ T f.g) (h2 : ∀ i, f.v.ownBlock = some i → ¬ T i) : FoAt w' f :=
  ⟨h.blk.kept k h1, h.row.kept k h2, h.la, h.may⟩
theorem Dk.kept {T : Nat → Prop} (h : Dk w p m S L) (k : Keep T w w') (hn : ∀ i, Foot p m L i → ¬ T i) : Dk w' p m S L :=
  ⟨h.blk.kept k (hn p (.inl rfl)), ownsMap_kept h.map k (hn m (.inr (.inl rfl))), h.rise, fun f hf => (h.file f hf).kept k (hn _ (.inr (.inr ⟨f, hf, .inl rfl⟩))) (fun i hi => hn i (.inr (.inr ⟨f, hf, .inr hi⟩))), h.apart, h.cap1, h.cap2, h.room, h.few, h.fuse1, h.fuse2⟩
theorem Dk.below (h : Dk w p m S L) (k : Below w.heap.size w w') : Dk w' p m S L := h.kept (T := fun _ => False) (.of_below k) fun _ _ h => h
theorem Dk.lt (h : Dk w p m S L) : ∀ i, Foot p m L i → i < w.heap.size := by
  rintro i (rfl | rfl | ⟨f, hf, rfl | hi⟩)
  · exact h.blk.lt
  · exact h.map.lt
  · exact (h.file f hf).blk.lt
  · exact ((h.file f hf).row.lt i hi).2
theorem Dk.c0 (h : Dk w p m S L) : w.cell? ⟨p, 0, none⟩ = some (.int .i64 (S.cap : Int)) := by rw [h.blk.cell]; rfl
theorem Dk.c1 (h : Dk w p m S L) : w.cell? ⟨p, 1, none⟩ = some (.map (some m)) := by rw [h.blk.cell]; rfl
theorem Dk.c2 (h : Dk w p m S L) : w.cell? ⟨p, 2, none⟩ = some (.int .i64 S.fuse) := by rw [h.blk.cell]; rfl
theorem Dk.c3 (h : Dk w p m S L) : w.cell? ⟨p, 3, none⟩ = some (.bool S.dead) := by rw [h.blk.cell]; rfl
theorem Dk.c4 (h : Dk w p m S L) : w.cell? ⟨p, 4, none⟩ = some (.int .i64 (S.wr : Int)) := by rw [h.blk.cell]; rfl
theorem FoAt.c0 {f : Fo} (h : FoAt w f) : w.cell? ⟨f.g, 0, none⟩ = some f.v := by rw [h.blk.cell]; rfl
theorem FoAt.c1 {f : Fo} (h : FoAt w f) : w.cell? ⟨f.g, 1, none⟩ = some (.int .i64 (f.la : Int)) := by rw [h.blk.cell]; rfl
theorem Dk.look (h : Dk w p m S L) (s : ByteArray) (hs : s.size ≤ maxLen) : (Instr.lookup 52 (.map (some m)) (.string s) false).run Tryz.prog w = .ok (ptrOf (find L s.data.toList)) w := by
  obtain ⟨v, ps, hrun, hv⟩ := h.map.lookup strKey Tryz.underlying52 (zeroFile w) ptrR_nil (WideMaps.keyOf_string_mk Tryz.underlying9 hs)
  rw [atKey_DE] at hv
  have e : v = ptrOf (find L s.data.toList) := by
    clear hrun
    cases hf : find L s.data.toList with
    | none =>
      rw [hf] at hv
      rcases ptrR_inv hv with ⟨rfl, _⟩ | ⟨g, rfl, e⟩
      · rfl
      · cases e
    | some f =>
      rw [hf] at hv
      rcases ptrR_inv hv with ⟨rfl, e⟩ | ⟨g, rfl, e⟩
      · cases e
      · simp at e
        show _ = Value.pointer (some ⟨f.g, 0, none⟩)
        rw [show f.g = g by omega]
  rw [hrun, e]
end
end Go.Proofs.YtibifnknkphanaaGreatDoor

namespace Go.Proofs.YtibifnknkphanaaGreatDoor
open Go.RowKit Go.Maps
open DskM
set_option linter.unusedVariables false
set_option linter.unusedSimpArgs false
set_option maxRecDepth 20000

section
variable {w : World} {p m : Nat} {S : Ds} {L : List Fo}
theorem none_any (h : Dk w p m S L) : Calls Tryz.prog 57 #[.pointer (some ⟨p, 0, none⟩)] w fun e w' => e = .returned (.bool false) ∧ w' = w := by
  have h0 := h.c0
  have h1 : ((S.cap : Int) == 0) = false := by rw [beq_eq_false_iff_ne]; have := h.cap1; omega
  go_enter Tryz.func57, Tryz.ntmps57
  go_wp2
  go_ret
  exact ⟨rfl, rfl⟩

/-- What find answers: the file and a number. -/
def findE (L : List Fo) (n : Nm) (may : Bool) : Int := if mayB n = true ∧ may = true then (if (find L n).isSome then 0 else 6) else 2
theorem find_bad (h : Dk w p m S L) (s : ByteArray) (may : Bool) (hm : ¬ (mayB s.data.toList = true ∧ may = true)) :
    Calls Tryz.prog 70 #[.pointer (some ⟨p, 0, none⟩), .string s, .bool may] w fun e w' => e = .returned (.tuple #[.pointer none, .int .i64 2]) ∧ Below w.heap.size w w' := by
  have hn := none_any h
  have hN := mayName_any s w
  obtain ⟨b, hb⟩ : ∃ b, b = mayB s.data.toList := ⟨_, rfl⟩
  rw [← hb] at hN hm
  clear hb h
  cases b
  · go_enter Tryz.func70, Tryz.ntmps70
    go_wp2_with fail
    refine hn.mono ?_
    rintro e w1 ⟨rfl, rfl⟩
    go_wp2_with fail
    refine hN.mono ?_
    rintro e w2 ⟨rfl, hb2⟩
    clear hn hN
    go_wp2
    go_ret2
    exact ⟨rfl, hb2⟩
  · obtain rfl : may = false := by
      cases may
      · rfl
      · exact absurd ⟨rfl, rfl⟩ hm
    clear hm
    go_enter Tryz.func70, Tryz.ntmps70
    go_wp2_with fail
    refine hn.mono ?_
    rintro e w1 ⟨rfl, rfl⟩
    go_wp2_with fail
    refine hN.mono ?_
    rintro e w2 ⟨rfl, hb2⟩
    clear hn hN
    go_wp2
    go_ret2
    exact ⟨rfl, hb2⟩
theorem find_there (h : Dk w p m S L) (s : ByteArray) (hm : mayB s.data.toList = true) (f : Fo) (hf : find L s.data.toList = some f) :
    Calls Tryz.prog 70 #[.pointer (some ⟨p, 0, none⟩), .string s, .bool true] w fun e w' => e = .returned (.tuple #[.pointer (some ⟨f.g, 0, none⟩), .int .i64 0]) ∧ Below w.heap.size w w' := by
  have hn := none_any h
  have hN := mayName_any s w
  rw [hm] at hN
  have hsz : s.size ≤ maxLen := by have := may_size hm; unfold maxLen; omega
  have H := Lib.hid h
  have HF := Lib.hid hf
  have HS := Lib.hid hsz
  clear hm h hf hsz
  go_enter Tryz.func70, Tryz.ntmps70
  go_wp2_with fail
  refine hn.mono ?_
  rintro e w1 ⟨rfl, rfl⟩
  go_wp2_with fail
  refine hN.mono ?_
  rintro e w2 ⟨rfl, hb2⟩
  have h2 := H.out.below hb2
  have hl := h2.look s HS.out
  have k1 := h2.c1
  rw [HF.out] at hl
  simp only [ptrOf] at hl
  clear hn hN h2
  go_wp2
  go_ret2
  exact ⟨rfl, hb2⟩
theorem find_lacks (h : Dk w p m S L) (s : ByteArray) (hm : mayB s.data.toList = true) (hf : find L s.data.toList = none) :
    Calls Tryz.prog 70 #[.pointer (some ⟨p, 0, none⟩), .string s, .bool true] w fun e w' => e = .returned (.tuple #[.pointer none, .int .i64 6]) ∧ Below w.heap.size w w' := by
  have hn := none_any h
  have hN := mayName_any s w
  rw [hm] at hN
  have hsz : s.size ≤ maxLen := by have := may_size hm; unfold maxLen; omega
  have H := Lib.hid h
  have HF := Lib.hid hf
  have HS := Lib.hid hsz
  clear hm h hf hsz
  go_enter Tryz.func70, Tryz.ntmps70
  go_wp2_with fail
  refine hn.mono ?_
  rintro e w1 ⟨rfl, rfl⟩
  go_wp2_with fail
  refine hN.mono ?_
  rintro e w2 ⟨rfl, hb2⟩
  have h2 := H.out.below hb2
  have hl := h2.look s HS.out
  have k1 := h2.c1
  rw [HF.out] at hl
  simp only [ptrOf] at hl
  clear hn hN h2
  go_wp2
  go_ret2
  exact ⟨rfl, hb2⟩
theorem dead_any (h : Dk w p m S L) : Calls Tryz.prog 19 #[.pointer (some ⟨p, 0, none⟩)] w fun e w' => e = .returned (.bool S.dead) ∧ w' = w := by
  have hn := none_any h
  have h3 := h.c3
  clear h
  generalize S.dead = q at h3 ⊢
  go_enter Tryz.func19, Tryz.ntmps19
  go_wp2_with fail
  refine hn.mono ?_
  rintro e w1 ⟨rfl, rfl⟩
  clear hn
  go_wp2
  go_ret
  exact ⟨rfl, rfl⟩
end
/-- A disk without files. -/
theorem blank_any (c : Nat) (w : World) (h1 : 1 ≤ c) (h2 : c ≤ 16777216) :
    Calls Tryz.prog 52 #[.int .i64 (c : Int)] w fun e w' => ∃ p m, e = .returned (.pointer (some ⟨p, 0, none⟩)) ∧ Dk w' p m ⟨c, -1, false, 0⟩ [] ∧ (∀ i, Foot p m [] i → w.heap.size ≤ i) ∧ Below w.heap.size w w' := by
  have hmm := @run_makeMap Tryz.prog
  have hb0 : Below w.heap.size w ((w.alloc (.map #[] 0)).alloc (.cells (dkc ⟨c, -1, false, 0⟩ w.heap.size) 54)) := ((Below.refl _ _).alloc (Nat.le_refl _) _).alloc (by simp) _
  have hB := Blk.new (w.alloc (.map #[] 0)) 54 (dkc ⟨c, -1, false, 0⟩ w.heap.size)
  rw [show (w.alloc (.map #[] 0)).heap.size = w.heap.size + 1 by simp] at hB
  have hM := (World.ownsMap_made w Tryz.prog 9 ptrR).alloc (.cells (dkc ⟨c, -1, false, 0⟩ w.heap.size) 54)
  go_enter Tryz.func52, Tryz.ntmps52
  go_wp2
  go_ret
  refine ⟨_, w.heap.size, rfl, ⟨hB, hM, List.Pairwise.nil, (fun f hf => by cases hf), (fun f hf => by cases hf), h1, h2, Nat.zero_le _, Nat.zero_le _, (by show (-9223372036854775808 : Int) ≤ -1; omega), (by show (-1 : Int) ≤ 9223372036854775807; omega)⟩, ?_, hb0⟩
  rintro i (rfl | rfl | ⟨f, hf, _⟩)
  · simp
  · exact Nat.le_refl _
  · cases hf
theorem new_bad (c : Int) (w : World) (h : ¬ (1 ≤ c ∧ c ≤ 16777216)) :
    Calls Tryz.prog 16 #[.int .i64 c] w fun e w' => e = .returned (.tuple #[.pointer none, .int .i64 2]) ∧ w' = w := by
  by_cases h1 : 1 ≤ c
  · have t1 : decide (c < 1) = false := decide_eq_false (by omega)
    have t2 : decide (16777216 < c) = true := decide_eq_true (by omega)
    clear h h1
    go_enter Tryz.func16, Tryz.ntmps16
    go_wp2
    go_ret2
    exact ⟨rfl, rfl⟩
  · have t1 : decide (c < 1) = true := decide_eq_true (by omega)
    clear h h1
    go_enter Tryz.func16, Tryz.ntmps16
    go_wp2
    go_ret2
    exact ⟨rfl, rfl⟩
theorem new_any (c : Nat) (w : World) (h1 : 1 ≤ c) (h2 : c ≤ 16777216) :
    Calls Tryz.prog 16 #[.int .i64 (c : Int)] w fun e w' => ∃ p m, e = .returned (.tuple #[.pointer (some ⟨p, 0, none⟩), .int .i64 0]) ∧ Dk w' p m ⟨c, -1, false, 0⟩ [] ∧ (∀ i, Foot p m [] i → w.heap.size ≤ i) ∧ Below w.heap.size w w' := by
  have t1 : decide ((c : Int) < 1) = false := decide_eq_false (by omega)
  have t2 : decide ((16777216 : Int) < (c : Int)) = false := decide_eq_false (by omega)
  have hbl := blank_any c w h1 h2
  clear h1 h2
  go_enter Tryz.func16, Tryz.ntmps16
  go_wp2_with fail
  refine hbl.mono ?_
  rintro e w1 ⟨p, m, rfl, hd, hf, hb⟩
  clear hbl
  go_wp2
  go_ret2
  exact ⟨p, m, rfl, hd, hf, hb⟩
end Go.Proofs.YtibifnknkphanaaGreatDoor

namespace Go.Proofs.YtibifnknkphanaaGreatDoor
open Go.RowKit Go.Maps
open DskM
set_option linter.unusedVariables false
set_option linter.unusedSimpArgs false
set_option maxRecDepth 20000

section
variable {w w' : World} {p m : Nat} {S S' : Ds} {L : List Fo}
theorem Dk.ne_map (h : Dk w p m S L) : m ≠ p := ownsMap_notcells h.map h.blk
theorem Dk.ne_file (h : Dk w p m S L) {f : Fo} (hf : f ∈ L) : f.g ≠ p := (h.file f hf).blk.ne_ h.blk (by decide)
theorem Dk.ne_row (h : Dk w p m S L) {f : Fo} (hf : f ∈ L) : f.v.ownBlock ≠ some p := fun e => by
  obtain ⟨cs, hc⟩ := (h.file f hf).row.isRow e
  exact absurd rfl (hc.ne_ h.blk (by decide))
/-- The disk's own numbers have turned. -/
theorem Dk.turn (h : Dk w p m S L) (k : Keep (fun i => i = p) w w') (hb : Blk w' p 54 (dkc S' m)) (hc : S'.cap = S.cap) (h1 : -9223372036854775808 ≤ S'.fuse) (h2 : S'.fuse ≤ 9223372036854775807) : Dk w' p m S' L :=
  ⟨hb, ownsMap_kept h.map k h.ne_map, h.rise, fun f hf => (h.file f hf).kept k (h.ne_file hf) (fun i hi e => h.ne_row hf (e ▸ hi)), h.apart, hc ▸ h.cap1, hc ▸ h.cap2, hc ▸ h.room, h.few, h1, h2⟩
/-- One more write. -/
def Ds.more (S : Ds) : Ds := { S with wr := S.wr + 1 }
/-- .. that the fuse lets be done. -/
def Ds.step (S : Ds) : Ds := { S with wr := S.wr + 1, fuse := if 0 < S.fuse then S.fuse - 1 else S.fuse }
/-- .. at which the power goes. -/
def Ds.gone (S : Ds) : Ds := { S with wr := S.wr + 1, dead := true }

theorem write_dead (h : Dk w p m S L) (hd : S.dead = true) (f1 f2 : Value) : Calls Tryz.prog 73 #[.pointer (some ⟨p, 0, none⟩), f1, f2] w fun e w' => e = .returned (.int .i64 8) ∧ w' = w := by
  have h3 := h.c3
  rw [hd] at h3
  clear h hd
  go_enter Tryz.func73, Tryz.ntmps73
  go_wp2
  go_ret
  exact ⟨rfl, rfl⟩

theorem Dk.at4 (h : Dk w p m S L) : Dk (w.setCell ⟨p, 4, none⟩ (.int .i64 ((S.wr : Int) + 1))) p m S.more L :=
  h.turn (Keep.setCell w _ _ rfl) (h.blk.set_ 4 _) rfl h.fuse1 h.fuse2
theorem Dk.at3 (h : Dk w p m S L) : Dk (w.setCell ⟨p, 3, none⟩ (.bool true)) p m { S with dead := true } L :=
  h.turn (Keep.setCell w _ _ rfl) (h.blk.set_ 3 _) rfl h.fuse1 h.fuse2
theorem Dk.at2 (h : Dk w p m S L) (n : Int) (h1 : -9223372036854775808 ≤ n) (h2 : n ≤ 9223372036854775807) : Dk (w.setCell ⟨p, 2, none⟩ (.int .i64 n)) p m { S with fuse := n } L :=
  h.turn (Keep.setCell w _ _ rfl) (h.blk.set_ 2 _) rfl h1 h2

set_option maxHeartbeats 1000000 in
theorem write_torn (h : Dk w p m S L) (hd : S.dead = false) (hf : S.fuse = 0) (hw : S.wr ≤ 1000000) (f1 : Value) (fid : Nat) (caps : Array Value) (Post : World → Prop)
    (eg : ∀ args w, (callFunc fid args).run Tryz.prog w = .ok (.enter fid args) w)
    (hrun : ∀ W, Dk W p m S.gone L → Keep (fun i => i = p) w W → W.heap.size = w.heap.size → Calls Tryz.prog fid caps W fun e W' => e = .returned (.tuple #[]) ∧ Post W') :
    Calls Tryz.prog 73 #[.pointer (some ⟨p, 0, none⟩), f1, .func (.func fid) #[] caps] w fun e w' => e = .returned (.int .i64 8) ∧ Post w' := by
  have h3 := h.c3
  have h4 := h.c4
  have h2 := h.c2
  rw [hd] at h3
  rw [hf] at h2
  have f4 := h.blk.frozen 4
  have f3 := h.blk.frozen 3
  have hw1 : IntKind.i64.wrap ((S.wr : Int) + 1) = (S.wr : Int) + 1 := by rw [IntKind.wrap_i64] <;> omega
  have hD := (h.at4).at3
  have hk : Keep (fun i => i = p) w ((w.setCell ⟨p, 4, none⟩ (.int .i64 ((S.wr : Int) + 1))).setCell ⟨p, 3, none⟩ (.bool true)) := (Keep.setCell (S := fun i => i = p) w _ _ rfl).trans (Keep.setCell (S := fun i => i = p) _ _ _ rfl) (fun _ h => h) (fun _ _ h => h)
  have hR := hrun _ hD hk (by simp)
  have HR := Lib.hid hR
  have hwr : (S.wr : Int) ≤ 1000000 := by omega
  have hwr0 : (0 : Int) ≤ (S.wr : Int) := by omega
  clear h hd hf hD hk hR hrun hw
  generalize S.wr = n at *
  go_enter Tryz.func73, Tryz.ntmps73
  go_wp2_with fail
  refine HR.out.mono ?_
  rintro e w1 ⟨rfl, hp⟩
  have HP := Lib.hid hp
  clear hp
  go_wp2_with fail
  go_ret
  exact ⟨rfl, HP.out⟩

set_option maxHeartbeats 1000000 in
theorem write_all (h : Dk w p m S L) (hd : S.dead = false) (hf : S.fuse ≠ 0) (hw : S.wr ≤ 1000000) (f2 : Value) (fid : Nat) (caps : Array Value) (Post : World → Prop)
    (eg : ∀ args w, (callFunc fid args).run Tryz.prog w = .ok (.enter fid args) w)
    (hrun : ∀ W, Dk W p m S.step L → Keep (fun i => i = p) w W → W.heap.size = w.heap.size → Calls Tryz.prog fid caps W fun e W' => e = .returned (.tuple #[]) ∧ Post W') :
    Calls Tryz.prog 73 #[.pointer (some ⟨p, 0, none⟩), .func (.func fid) #[] caps, f2] w fun e w' => e = .returned (.int .i64 0) ∧ Post w' := by
  have h3 := h.c3
  have h4 := h.c4
  have h2 := h.c2
  rw [hd] at h3
  have f4 := h.blk.frozen 4
  have f2' := h.blk.frozen 2
  have hw1 : IntKind.i64.wrap ((S.wr : Int) + 1) = (S.wr : Int) + 1 := by rw [IntKind.wrap_i64] <;> omega
  have hwr : (S.wr : Int) ≤ 1000000 := by omega
  have hwr0 : (0 : Int) ≤ (S.wr : Int) := by omega
  have hf0 : (S.fuse == 0) = false := by rw [beq_eq_false_iff_ne]; exact hf
  have hb1 := h.fuse1
  have hb2 := h.fuse2
  by_cases hp : 0 < S.fuse
  · have hD := (h.at4).at2 (S.fuse - 1) (by omega) (by omega)
    have hk : Keep (fun i => i = p) w ((w.setCell ⟨p, 4, none⟩ (.int .i64 ((S.wr : Int) + 1))).setCell ⟨p, 2, none⟩ (.int .i64 (S.fuse - 1))) := (Keep.setCell (S := fun i => i = p) w _ _ rfl).trans (Keep.setCell (S := fun i => i = p) _ _ _ rfl) (fun _ h => h) (fun _ _ h => h)
    have e : { S.more with fuse := S.fuse - 1 } = S.step := by unfold Ds.step Ds.more; rw [if_pos hp]
    rw [e] at hD
    have HR := Lib.hid (hrun _ hD hk (by simp))
    have hw2 : IntKind.i64.wrap (S.fuse - 1) = S.fuse - 1 := by rw [IntKind.wrap_i64] <;> omega
    have hpd : decide (0 < S.fuse) = true := decide_eq_true hp
    clear h hd hf hD hk hrun hw e hp
    generalize S.wr = n at *
    generalize S.fuse = q at *
    go_enter Tryz.func73, Tryz.ntmps73
    go_wp2_with fail
    refine HR.out.mono ?_
    rintro e w1 ⟨rfl, hp⟩
    have HP := Lib.hid hp
    clear hp
    go_wp2_with fail
    go_ret
    exact ⟨rfl, HP.out⟩
  · have hD := h.at4
    have hk : Keep (fun i => i = p) w (w.setCell ⟨p, 4, none⟩ (.int .i64 ((S.wr : Int) + 1))) := Keep.setCell (S := fun i => i = p) w _ _ rfl
    have e : S.more = S.step := by unfold Ds.step Ds.more; rw [if_neg hp]
    rw [e] at hD
    have HR := Lib.hid (hrun _ hD hk (by simp))
    have hpd : decide (0 < S.fuse) = false := decide_eq_false hp
    clear h hd hf hD hk hrun hw e hp
    generalize S.wr = n at *
    generalize S.fuse = q at *
    go_enter Tryz.func73, Tryz.ntmps73
    go_wp2_with fail
    refine HR.out.mono ?_
    rintro e w1 ⟨rfl, hp⟩
    have HP := Lib.hid hp
    clear hp
    go_wp2_with fail
    go_ret
    exact ⟨rfl, HP.out⟩
end
end Go.Proofs.YtibifnknkphanaaGreatDoor

namespace Go.Proofs.YtibifnknkphanaaGreatDoor
open Go.RowKit Go.Maps
open DskM
set_option linter.unusedVariables false
set_option linter.unusedSimpArgs false

/-- The file of that name is that one. -/
def setF (L : List Fo) (f' : Fo) : List Fo := upd L f'.nm fun _ => f'
theorem setF_nm (L : List Fo) (f' : Fo) : (setF L f').map Fo.nm = L.map Fo.nm := by
  unfold setF upd
  rw [List.map_map]
  refine List.map_congr_left fun f _ => ?_
  simp only [Function.comp_apply]
  split
  · rename_i h; exact h.symm
  · rfl
theorem setF_rise {L : List Fo} (h : Rise L) (f' : Fo) : Rise (setF L f') := by
  rw [rise_iff, setF_nm, ← rise_iff]; exact h
theorem setF_len (L : List Fo) (f' : Fo) : (setF L f').length = L.length := by simp [setF, upd]
theorem mem_setF {L : List Fo} {f' y : Fo} (h : y ∈ setF L f') : y = f' ∨ (y ∈ L ∧ y.nm ≠ f'.nm) := by
  obtain ⟨f, hf, e⟩ := mem_upd.1 h
  by_cases hn : f.nm = f'.nm
  · rw [if_pos hn] at e; exact .inl e
  · rw [if_neg hn] at e; subst e; exact .inr ⟨hf, hn⟩
theorem setF_DE {L : List Fo} (hr : Rise L) {f f' : Fo} (hf : f ∈ L) (hn : f'.nm = f.nm) (hg : f'.g = f.g) : DE (setF L f') = DE L := by
  unfold DE setF upd
  rw [List.map_map]
  congr 1
  refine List.map_congr_left fun x hx => ?_
  simp only [Function.comp_apply]
  split
  · rename_i h
    have : x = f := rise_one hr hx hf (h.trans hn)
    subst this
    unfold enc
    rw [hn, hg]
  · rfl
theorem setF_total {L : List Fo} (hr : Rise L) {f f' : Fo} (hf : f ∈ L) (hn : f'.nm = f.nm) : total (setF L f') + f.bs.length = total L + f'.bs.length := by
  unfold setF
  rw [hn]
  exact total_upd (h := fun _ => f') hr hf rfl
theorem find_setF {L : List Fo} (hr : Rise L) {f f' : Fo} (hf : f ∈ L) (hn : f'.nm = f.nm) (n : Nm) : find (setF L f') n = if n = f'.nm then some f' else find L n := by
  by_cases h : n = f'.nm
  · rw [if_pos h]
    have hm : f' ∈ setF L f' := mem_upd.2 ⟨f, hf, by rw [if_pos hn.symm]⟩
    have := find_of_mem (setF_rise hr f') hm
    rw [h]; exact this
  · rw [if_neg h]
    cases hc : find L n with
    | none =>
      refine find_none.2 fun y hy e => ?_
      rcases mem_setF hy with rfl | ⟨hy, _⟩
      · exact h e.symm
      · exact find_none.1 hc y hy e
    | some x =>
      obtain ⟨hx, e⟩ := find_mem hc
      have hm : x ∈ setF L f' := mem_upd.2 ⟨x, hx, by rw [if_neg fun e2 => h (e.symm.trans e2)]⟩
      have := find_of_mem (setF_rise hr f') hm
      rw [e] at this; exact this

section
variable {w w' : World} {p m : Nat} {S S' : Ds} {L : List Fo}
theorem Dk.fm (h : Dk w p m S L) {f : Fo} (hf : f ∈ L) : m ≠ f.g := ownsMap_notcells h.map (h.file f hf).blk
theorem Dk.rm (h : Dk w p m S L) {f : Fo} (hf : f ∈ L) : f.v.ownBlock ≠ some m := fun e => by
  obtain ⟨cs, hc⟩ := (h.file f hf).row.isRow e
  exact absurd rfl (ownsMap_notcells h.map hc)
theorem Dk.rf (h : Dk w p m S L) {f f' : Fo} (hf : f ∈ L) (hf' : f' ∈ L) : f.v.ownBlock ≠ some f'.g := fun e => by
  obtain ⟨cs, hc⟩ := (h.file f hf).row.isRow e
  exact absurd rfl (hc.ne_ (h.file f' hf').blk (by decide))
/-- A file has turned: its own block, its row or a new one. -/
theorem Dk.put (h : Dk w p m S L) {f f' : Fo} (hf : f ∈ L) (hn : f'.nm = f.nm) (hg : f'.g = f.g) (hk : Keep (fun i => i = f.g ∨ f.v.ownBlock = some i) w w') (hF : FoAt w' f')
    (hv : ∀ i, f'.v.ownBlock = some i → f.v.ownBlock = some i ∨ w.heap.size ≤ i) (hr : total L + f'.bs.length ≤ S.cap + f.bs.length) : Dk w' p m S (setF L f') := by
  have hlt := h.lt
  refine ⟨h.blk.kept hk ?_, ?_, setF_rise h.rise f', ?_, ?_, h.cap1, h.cap2, ?_, by rw [setF_len]; exact h.few, h.fuse1, h.fuse2⟩
  · rintro (e | e)
    · exact h.ne_file hf e.symm
    · exact h.ne_row hf e
  · rw [setF_len, setF_DE h.rise hf hn hg]
    refine ownsMap_kept h.map hk ?_
    rintro (e | e)
    · exact h.fm hf e
    · exact h.rm hf e
  · intro x hx
    rcases mem_setF hx with rfl | ⟨hx, hne⟩
    · exact hF
    · have ha := h.apart f hf x hx (fun e => hne (e.symm.trans hn.symm))
      refine (h.file x hx).kept hk ?_ ?_
      · rintro (e | e)
        · exact ha.1 e.symm
        · exact h.rf hf hx e
      · rintro i hi (e | e)
        · subst e; exact h.rf hx hf hi
        · exact ha.2 i e hi
  · intro x hx y hy hne
    have key : ∀ z ∈ L, z.nm ≠ f'.nm → (f'.g ≠ z.g ∧ ∀ i, f'.v.ownBlock = some i → z.v.ownBlock ≠ some i) := fun z hz hzn => by
      have ha := h.apart f hf z hz (fun e => hzn (e.symm.trans hn.symm))
      refine ⟨by rw [hg]; exact ha.1, fun i hi e => ?_⟩
      rcases hv i hi with h1 | h1
      · exact ha.2 i h1 e
      · have := hlt i (.inr (.inr ⟨z, hz, .inr e⟩)); omega
    rcases mem_setF hx with ex | ⟨hx1, hxn⟩ <;> rcases mem_setF hy with ey | ⟨hy1, hyn⟩
    · exact absurd (by rw [ex, ey]) hne
    · rw [ex]; exact key y hy1 hyn
    · obtain ⟨a, b⟩ := key x hx1 hxn
      rw [ey]
      exact ⟨fun e => a e.symm, fun i hi e => b i e hi⟩
    · exact h.apart x hx1 y hy1 hne
  · have := setF_total h.rise hf hn
    omega
theorem Foot.setF {f f' : Fo} (hf : f ∈ L) (hn : f'.nm = f.nm) (hg : f'.g = f.g) {n : Nat} (hv : ∀ i, f'.v.ownBlock = some i → f.v.ownBlock = some i ∨ n ≤ i) : ∀ i, Foot p m (setF L f') i → Foot p m L i ∨ n ≤ i := by
  rintro i (rfl | rfl | ⟨x, hx, hi⟩)
  · exact .inl (.inl rfl)
  · exact .inl (.inr (.inl rfl))
  · rcases mem_setF hx with rfl | ⟨hx, _⟩
    · rcases hi with hi | hi
      · exact .inl (.inr (.inr ⟨f, hf, .inl (hi.trans hg)⟩))
      · rcases hv i hi with h | h
        · exact .inl (.inr (.inr ⟨f, hf, .inr h⟩))
        · exact .inr h
    · exact .inl (.inr (.inr ⟨x, hx, hi⟩))
end
end Go.Proofs.YtibifnknkphanaaGreatDoor

namespace Go.Proofs.YtibifnknkphanaaGreatDoor
open Go.RowKit Go.Maps
open DskM
set_option linter.unusedVariables false
set_option linter.unusedSimpArgs false
set_option maxRecDepth 20000

theorem nothing_any (w : World) : Calls Tryz.prog 109 #[] w fun e w' => e = .returned (.tuple #[]) ∧ w' = w := by
  go_enter Tryz.func109, Tryz.ntmps109
  go_wp2
  go_end0
  exact ⟨rfl, rfl⟩

section
variable {w w' : World} {p m : Nat} {S S' : Ds} {L : List Fo}
/-- What Sync does. -/
theorem sync1_any (c : Nat) (f : Fo) (W : World) (hc : W.cell? ⟨c, 0, none⟩ = some (.pointer (some ⟨f.g, 0, none⟩))) (hf : FoAt W f) :
    Calls Tryz.prog 108 #[.pointer (some ⟨c, 0, none⟩)] W fun e W' => e = .returned (.tuple #[]) ∧ W' = W.drew.setCell ⟨f.g, 1, none⟩ (.int .i64 (f.bs.length : Int)) := by
  have hfo : Tryz.prog.follows .mixedOrders = true := by kernel_rfl
  have c0 := hf.c0
  have f1 := hf.blk.frozen 1
  have c1 := hf.c1
  obtain ⟨A, n, cc, hv⟩ := hf.row.shape
  rw [hv] at c0
  obtain rfl : n = f.bs.length := by have := hf.row.sl; rw [hv] at this; exact this.len
  clear hf hv
  generalize f.g = g at *
  generalize f.bs.length = n at *
  generalize f.la = la at *
  go_enter Tryz.func108, Tryz.ntmps108
  go_still_tail 8, hfo
  go_wp2
  go_end0
  exact ⟨rfl, rfl⟩
end
end Go.Proofs.YtibifnknkphanaaGreatDoor

namespace Go.Proofs.YtibifnknkphanaaGreatDoor
open Go.RowKit Go.Maps
open DskM
set_option linter.unusedVariables false
set_option linter.unusedSimpArgs false
set_option maxRecDepth 20000

/-! Plainly: a disk is its numbers and its files by rising names. -/
def findP (F : List Fp) (n : Nm) : Option Fp := F.find? fun x => x.1 == n
def setP (F : List Fp) (x : Fp) : List Fp := F.map fun y => if y.1 = x.1 then x else y
def delP (F : List Fp) (n : Nm) : List Fp := F.filter fun x => !(x.1 == n)
def insP (x : Fp) : List Fp → List Fp
  | [] => [x]
  | y :: r => if bytesBefore x.1 y.1 then x :: y :: r else y :: insP x r
def totalP (F : List Fp) : Nat := (F.map fun x => x.2.1.length).sum
def plain (L : List Fo) : List Fp := L.map Fo.p
theorem find_plain (L : List Fo) (n : Nm) : findP (plain L) n = (find L n).map Fo.p := by
  unfold findP plain find
  rw [List.find?_map]
  rfl
theorem setF_plain (L : List Fo) (f' : Fo) : plain (setF L f') = setP (plain L) f'.p := by
  unfold plain setF upd setP
  rw [List.map_map, List.map_map]
  refine List.map_congr_left fun f _ => ?_
  simp only [Function.comp_apply]
  show Fo.p (if f.nm = f'.nm then f' else f) = if f.nm = f'.nm then f'.p else f.p
  split <;> rfl
theorem del_plain (L : List Fo) (n : Nm) : plain (del L n) = delP (plain L) n := by
  unfold plain del delP
  rw [List.filter_map]
  rfl
theorem ins_plain (x : Fo) : ∀ L : List Fo, plain (ins x L) = insP x.p (plain L)
  | [] => rfl
  | y :: L => by
    show plain (if bytesBefore x.nm y.nm then x :: y :: L else y :: ins x L) = if bytesBefore x.nm y.nm then x.p :: y.p :: plain L else y.p :: insP x.p (plain L)
    rw [← ins_plain x L]
    split <;> rfl
theorem total_plain (L : List Fo) : totalP (plain L) = total L := by
  unfold totalP plain total
  rw [List.map_map]
  rfl
theorem plain_len (L : List Fo) : (plain L).length = L.length := by simp [plain]

/-- A write: done, torn, or not begun. -/
def writeS (S : Ds) (done torn F : List Fp) : Int × Ds × List Fp := if S.dead = true then (8, S, F) else if S.fuse = 0 then (8, S.gone, torn) else (0, S.step, done)
def syncS (S : Ds) (F : List Fp) (n : Nm) : Int × Ds × List Fp :=
  if mayB n = true then (match findP F n with | none => (6, S, F) | some x => writeS S (setP F (x.1, x.2.1, x.2.1.length)) F F) else (2, S, F)
def removeS (S : Ds) (F : List Fp) (n : Nm) : Int × Ds × List Fp :=
  if mayB n = true then (match findP F n with | none => (6, S, F) | some x => writeS S (delP F n) F F) else (2, S, F)
def cutS (S : Ds) (F : List Fp) (n : Nm) (k : Int) : Int × Ds × List Fp :=
  if mayB n = true ∧ 0 ≤ k then (match findP F n with | none => (6, S, F) | some x => if (x.2.1.length : Int) < k then (2, S, F) else writeS S (setP F (x.1, x.2.1.take k.toNat, min x.2.2 k.toNat)) F F) else (2, S, F)
def renameS (S : Ds) (F : List Fp) (n to : Nm) : Int × Ds × List Fp :=
  if mayB n = true ∧ mayB to = true then (match findP F n with | none => (6, S, F) | some x => writeS S (insP (to, x.2) (delP (delP F n) to)) F F) else (2, S, F)
def addP (F : List Fp) (n : Nm) (b : List UInt8) : List Fp := match findP F n with | none => insP (n, b, 0) F | some x => setP F (x.1, x.2.1 ++ b, x.2.2)
def appendS (S : Ds) (F : List Fp) (n : Nm) (b : List UInt8) : Int × Ds × List Fp :=
  if mayB n = true then (if S.cap < totalP F + b.length ∨ findP F n = none ∧ F.length = 64 then (5, S, F) else writeS S (addP F n b) (addP F n b) F) else (2, S, F)

/-- What has become of a disk; nothing else has turned that lay below B. -/
def Turn (B : Nat) (w : World) (p m : Nat) (L : List Fo) (S' : Ds) (F' : List Fp) (w' : World) : Prop :=
  ∃ L', plain L' = F' ∧ Dk w' p m S' L' ∧ Keep (fun i => Foot p m L i ∨ B ≤ i) w w' ∧ ∀ i, Foot p m L' i → Foot p m L i ∨ B ≤ i
def ResB (B : Nat) (w : World) (p m : Nat) (L : List Fo) (r : Int × Ds × List Fp) (e : Ending) (w' : World) : Prop := e = .returned (.int .i64 r.1) ∧ Turn B w p m L r.2.1 r.2.2 w'
def Res (w : World) (p m : Nat) (L : List Fo) (r : Int × Ds × List Fp) (e : Ending) (w' : World) : Prop := ResB w.heap.size w p m L r e w'
section
variable {w w' : World} {p m : Nat} {S S' : Ds} {L : List Fo} {B : Nat}
theorem Turn.same (h : Dk w p m S L) (hb : Below w.heap.size w w') : Turn B w p m L S (plain L) w' := ⟨L, rfl, h.below hb, .of_below hb, fun i hi => .inl hi⟩
theorem Turn.from {w0 : World} {F : List Fp} (hb : Below w0.heap.size w0 w) (h : Turn B w p m L S F w') : Turn B w0 p m L S F w' := by
  obtain ⟨L', a, b, c, d⟩ := h
  exact ⟨L', a, b, (Keep.of_below hb).trans c (fun _ h => h) (fun _ _ h => h), d⟩
theorem ResB.from {w0 : World} {r : Int × Ds × List Fp} {e : Ending} (hb : Below w0.heap.size w0 w) (h : ResB w0.heap.size w p m L r e w') : Res w0 p m L r e w' := ⟨h.1, h.2.from hb⟩
/-- What lay there stays, but for the disk. -/
theorem Turn.keep {F : List Fp} (h : Turn w.heap.size w p m L S F w') : Keep (Foot p m L) w w' := by
  obtain ⟨_, _, _, k, _⟩ := h
  exact ⟨k.os, k.tape, k.output, k.size, fun i hi hn => k.block i hi (fun e => e.elim hn (fun e => by omega))⟩
theorem Keep.foot (k : Keep (fun i => i = p) w w') : Keep (fun i => Foot p m L i ∨ B ≤ i) w w' := k.mono fun _ h => .inl (.inl h)
theorem write_any (h : Dk w p m S L) (hw : S.wr ≤ 1000000) (fA fT : Nat) (cA cT : Array Value) (done torn : List Fp)
    (eA : ∀ args w, (callFunc fA args).run Tryz.prog w = .ok (.enter fA args) w) (eT : ∀ args w, (callFunc fT args).run Tryz.prog w = .ok (.enter fT args) w)
    (hA : ∀ W, Dk W p m S.step L → Keep (fun i => i = p) w W → W.heap.size = w.heap.size → Calls Tryz.prog fA cA W fun e W' => e = .returned (.tuple #[]) ∧ Turn B W p m L S.step done W')
    (hT : ∀ W, Dk W p m S.gone L → Keep (fun i => i = p) w W → W.heap.size = w.heap.size → Calls Tryz.prog fT cT W fun e W' => e = .returned (.tuple #[]) ∧ Turn B W p m L S.gone torn W') :
    Calls Tryz.prog 73 #[.pointer (some ⟨p, 0, none⟩), .func (.func fA) #[] cA, .func (.func fT) #[] cT] w (ResB B w p m L (writeS S done torn (plain L))) := by
  have carry : ∀ (S' : Ds) (F : List Fp) (W W' : World), Keep (fun i => i = p) w W → W.heap.size = w.heap.size → Turn B W p m L S' F W' → Turn B w p m L S' F W' := by
    rintro S' F W W' hk hz ⟨L', a, b, c, d⟩
    exact ⟨L', a, b, (Keep.foot hk).trans c (fun _ h => h) (fun _ _ h => h), d⟩
  unfold writeS
  cases hd : S.dead with
  | true =>
    rw [if_pos rfl]
    refine (write_dead h hd _ _).mono ?_
    rintro e w' ⟨rfl, rfl⟩
    exact ⟨rfl, .same h (Below.refl _ _)⟩
  | false =>
    rw [if_neg (by simp)]
    by_cases hf : S.fuse = 0
    · rw [if_pos hf]
      refine (write_torn h hd hf hw _ fT cT (fun w' => Turn B w p m L S.gone torn w') eT fun W h1 h2 h3 => ?_).mono ?_
      · refine (hT W h1 h2 h3).mono ?_
        rintro e W' ⟨rfl, ht⟩
        exact ⟨rfl, carry _ _ _ _ h2 h3 ht⟩
      · rintro e w' ⟨rfl, ht⟩
        exact ⟨rfl, ht⟩
    · rw [if_neg hf]
      refine (write_all h hd hf hw _ fA cA (fun w' => Turn B w p m L S.step done w') eA fun W h1 h2 h3 => ?_).mono ?_
      · refine (hA W h1 h2 h3).mono ?_
        rintro e W' ⟨rfl, ht⟩
        exact ⟨rfl, carry _ _ _ _ h2 h3 ht⟩
      · rintro e w' ⟨rfl, ht⟩
        exact ⟨rfl, ht⟩
theorem nothing_turn (W : World) (S' : Ds) (hd : Dk W p m S' L) : Calls Tryz.prog 109 #[] W fun e W' => e = .returned (.tuple #[]) ∧ Turn B W p m L S' (plain L) W' := by
  refine (nothing_any W).mono ?_
  rintro e W' ⟨rfl, rfl⟩
  exact ⟨rfl, .same hd (Below.refl _ _)⟩
theorem enters_nothing : ∀ args w, (callFunc 109 args).run Tryz.prog w = .ok (.enter 109 args) w := enters_of Tryz.func109 (by kernel_rfl) rfl
/-- One file has turned. -/
theorem Turn.put {f f' : Fo} (h : Dk w p m S L) (hf : f ∈ L) (hn : f'.nm = f.nm) (hg : f'.g = f.g) (hk : Keep (fun i => i = f.g ∨ f.v.ownBlock = some i) w w') (hF : FoAt w' f')
    (hv : ∀ i, f'.v.ownBlock = some i → f.v.ownBlock = some i ∨ w.heap.size ≤ i) (hr : total L + f'.bs.length ≤ S.cap + f.bs.length) (hB : B ≤ w.heap.size) : Turn B w p m L S (setP (plain L) f'.p) w' :=
  ⟨setF L f', setF_plain L f', h.put hf hn hg hk hF hv hr, hk.mono (fun i hi => .inl (.inr (.inr ⟨f, hf, hi⟩))), fun i hi => (Foot.setF hf hn hg hv i hi).imp id (fun h => Nat.le_trans hB h)⟩

set_option maxHeartbeats 1000000 in
theorem sync_any (h : Dk w p m S L) (hw : S.wr ≤ 1000000) (s : ByteArray) :
    Calls Tryz.prog 63 #[.pointer (some ⟨p, 0, none⟩), .string s] w (Res w p m L (syncS S (plain L) s.data.toList)) := by
  unfold syncS
  cases hm : mayB s.data.toList with
  | false =>
    rw [if_neg (by simp)]
    have hfi := find_bad h s true (by rw [hm]; simp)
    have H := Lib.hid h
    clear h hm
    go_enter Tryz.func63, Tryz.ntmps63
    go_wp2_with fail
    refine hfi.mono ?_
    rintro e w1 ⟨rfl, hb1⟩
    clear hfi
    go_wp2
    go_ret
    exact ⟨rfl, .same H.out (hb1.alloc hb1.size _)⟩
  | true =>
    rw [if_pos rfl, find_plain]
    cases hf : find L s.data.toList with
    | none =>
      have hfi := find_lacks h s hm hf
      have H := Lib.hid h
      clear h hm hf
      go_enter Tryz.func63, Tryz.ntmps63
      go_wp2_with fail
      refine hfi.mono ?_
      rintro e w1 ⟨rfl, hb1⟩
      clear hfi
      go_wp2
      go_ret
      exact ⟨rfl, .same H.out (hb1.alloc hb1.size _)⟩
    | some f =>
      have hfi := find_there h s hm f hf
      obtain ⟨hfm, hnm⟩ := find_mem hf
      have H := Lib.hid h
      have HW := Lib.hid hw
      have HM := Lib.hid hfm
      show Calls _ _ _ _ (Res w p m L (writeS S (setP (plain L) (f.nm, f.bs, f.bs.length)) (plain L) (plain L)))
      clear h hm hf hw hfm hnm
      go_enter Tryz.func63, Tryz.ntmps63
      go_wp2_with fail
      refine hfi.mono ?_
      rintro e w1 ⟨rfl, hb1⟩
      clear hfi
      have hb2 : Below w.heap.size w (w1.alloc (.cells #[.pointer (some ⟨f.g, 0, none⟩)] 108)) := hb1.alloc hb1.size _
      have hB := Blk.new w1 108 #[.pointer (some ⟨f.g, 0, none⟩)]
      have h2 := H.out.below hb2
      have hcs : w1.heap.size ≠ p := by have := H.out.blk.lt; have := hb1.size; omega
      have hwr := write_any (B := w.heap.size) h2 HW.out 108 109 #[.pointer (some ⟨w1.heap.size, 0, none⟩)] #[] (setP (plain L) (f.nm, f.bs, f.bs.length)) (plain L)
        (enters_of Tryz.func108 (by kernel_rfl) rfl) enters_nothing
        (fun W hd hk hz => by
          have hf := hd.file f HM.out
          refine (sync1_any w1.heap.size f W (by rw [(hB.kept hk hcs).cell]; rfl) hf).mono ?_
          rintro e W' ⟨rfl, rfl⟩
          refine ⟨rfl, Turn.put (f' := { f with la := f.bs.length }) hd HM.out rfl rfl ?_ ?_ (fun i hi => .inl hi) (by have := hd.room; show total L + f.bs.length ≤ _; omega) (by have := hb2.size; omega)⟩
          · exact (Keep.of_below (S := fun i => i = f.g ∨ f.v.ownBlock = some i) (Below.refl W.heap.size W).drew).trans (Keep.setCell (S := fun i => i = f.g ∨ f.v.ownBlock = some i) W.drew ⟨f.g, 1, none⟩ _ (.inl rfl)) (fun _ h => h) (fun _ _ h => h)
          · exact ⟨hf.blk.set_ 1 _, hf.row.keep (fun k hk => Below.heap_setCell _ _ _ k (fun e => hd.rf HM.out HM.out (by rw [hk]; exact congrArg some e))), Nat.le_refl _, hf.may⟩)
        (fun W hd _ _ => nothing_turn W _ hd)
      have HWR := Lib.hid hwr
      have HB := Lib.hid hb2
      clear hwr hB h2 hcs hb2
      go_wp2_with fail
      refine HWR.out.mono ?_
      rintro e w2 ⟨rfl, ht⟩
      have HT := Lib.hid ht
      clear ht HWR
      generalize (writeS S (setP (plain L) (f.nm, f.bs, f.bs.length)) (plain L) (plain L)) = r at *
      go_wp2_with fail
      go_ret
      exact ⟨rfl, HT.out.from HB.out⟩
end
end Go.Proofs.YtibifnknkphanaaGreatDoor

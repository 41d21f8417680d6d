/-
  Disk, plainly: files by rising names as a list, found, put, taken away; a map's datum made of such a list. No program is named here.
-/
import Derived.Maps.RangeWalk
import Derived.Maps.OwnSet
import Derived.Maps.OwnOps
import Derived.Sort.KeysCollected
namespace Go.Proofs.Ytdbkhigocjmfoaa.DskM
open Go Go.Maps
set_option linter.unusedVariables false
set_option linter.unusedSimpArgs false

abbrev Nm := List UInt8
/-- A file: its name, its bytes, how many of them last, the block in which it stands, its bytes' slice. -/
structure Fo where
  nm : Nm
  bs : List UInt8
  la : Nat
  g : Nat
  v : Value
/-- .. of which nothing but the name, the bytes and how many last are told. -/
abbrev Fp := Nm × List UInt8 × Nat
def Fo.p (f : Fo) : Fp := (f.nm, f.bs, f.la)

def Lt (a b : Nm) : Prop := bytesBefore a b = true
instance (a b : Nm) : Decidable (Lt a b) := by unfold Lt; infer_instance
theorem Lt.irrefl (a : Nm) : ¬ Lt a a := by unfold Lt; rw [WideAt.bytes_irrefl]; simp
theorem Lt.trans {a b c : Nm} (h : Lt a b) (k : Lt b c) : Lt a c := WideShapes.bytes_trans a b c h k
theorem Lt.total {a b : Nm} (h : a ≠ b) : Lt a b ∨ Lt b a := WideAt.bytes_total a b h
theorem Lt.asymm {a b : Nm} (h : Lt a b) : ¬ Lt b a := fun k => Lt.irrefl _ (h.trans k)
theorem Lt.ne {a b : Nm} (h : Lt a b) : a ≠ b := fun e => Lt.irrefl b (e ▸ h)

/-- Files by rising names. -/
def Rise (L : List Fo) : Prop := L.Pairwise fun a b => Lt a.nm b.nm
def find (L : List Fo) (n : Nm) : Option Fo := L.find? fun f => f.nm == n
def del (L : List Fo) (n : Nm) : List Fo := L.filter fun f => !(f.nm == n)
def ins (x : Fo) : List Fo → List Fo
  | [] => [x]
  | y :: r => if bytesBefore x.nm y.nm then x :: y :: r else y :: ins x r
/-- The file of that name turned. -/
def upd (L : List Fo) (n : Nm) (h : Fo → Fo) : List Fo := L.map fun f => if f.nm = n then h f else f
def total (L : List Fo) : Nat := (L.map fun f => f.bs.length).sum

theorem find_mem {L : List Fo} {n : Nm} {f : Fo} (h : find L n = some f) : f ∈ L ∧ f.nm = n :=
  ⟨List.mem_of_find?_eq_some h, by have := List.find?_some h; simpa using this⟩
theorem find_none {L : List Fo} {n : Nm} : find L n = none ↔ ∀ f ∈ L, f.nm ≠ n := by
  unfold find
  rw [List.find?_eq_none]
  simp
theorem rise_one : ∀ {L : List Fo}, Rise L → ∀ {f f' : Fo}, f ∈ L → f' ∈ L → f.nm = f'.nm → f = f'
  | [], _, _, _, hf, _, _ => by cases hf
  | x :: L, h, f, f', hf, hf', e => by
    obtain ⟨h1, h2⟩ := List.pairwise_cons.1 h
    rcases List.mem_cons.1 hf with ef | hf1 <;> rcases List.mem_cons.1 hf' with ef' | hf1'
    · rw [ef, ef']
    · subst ef; exact absurd e (h1 _ hf1').ne
    · subst ef'; exact absurd e.symm (h1 _ hf1).ne
    · exact rise_one h2 hf1 hf1' e
theorem find_of_mem {L : List Fo} (h : Rise L) {f : Fo} (hf : f ∈ L) : find L f.nm = some f := by
  cases hc : find L f.nm with
  | none => exact absurd rfl (find_none.1 hc f hf)
  | some f' =>
    obtain ⟨h1, h2⟩ := find_mem hc
    rw [rise_one h hf h1 h2.symm]
theorem mem_ins {x y : Fo} : ∀ {L : List Fo}, y ∈ ins x L ↔ y = x ∨ y ∈ L
  | [] => by simp [ins]
  | z :: L => by
    unfold ins
    split
    · simp
    · rw [List.mem_cons, mem_ins, List.mem_cons]
      constructor
      · rintro (h | h | h)
        · exact .inr (.inl h)
        · exact .inl h
        · exact .inr (.inr h)
      · rintro (h | h | h)
        · exact .inr (.inl h)
        · exact .inl h
        · exact .inr (.inr h)
theorem mem_del {n : Nm} {y : Fo} {L : List Fo} : y ∈ del L n ↔ y ∈ L ∧ y.nm ≠ n := by simp [del]
theorem rise_del {L : List Fo} (h : Rise L) (n : Nm) : Rise (del L n) := h.filter _
theorem rise_ins {x : Fo} : ∀ {L : List Fo}, Rise L → (∀ y ∈ L, y.nm ≠ x.nm) → Rise (ins x L)
  | [], _, _ => List.pairwise_singleton _ _
  | z :: L, h, hn => by
    obtain ⟨h1, h2⟩ := List.pairwise_cons.1 h
    unfold ins
    split
    · rename_i hb
      exact List.pairwise_cons.2 ⟨fun y hy => by
        rcases List.mem_cons.1 hy with rfl | hy
        · exact hb
        · exact Lt.trans hb (h1 y hy), h⟩
    · rename_i hb
      have hz : Lt z.nm x.nm := (Lt.total (hn z (List.mem_cons_self ..))).resolve_right hb
      refine List.pairwise_cons.2 ⟨fun y hy => ?_, rise_ins h2 fun y hy => hn y (List.mem_cons_of_mem _ hy)⟩
      rcases mem_ins.1 hy with rfl | hy
      · exact hz
      · exact h1 y hy
theorem mem_upd {L : List Fo} {n : Nm} {h : Fo → Fo} {y : Fo} : y ∈ upd L n h ↔ ∃ f ∈ L, y = if f.nm = n then h f else f := by
  unfold upd
  rw [List.mem_map]
  exact ⟨fun ⟨f, a, b⟩ => ⟨f, a, b.symm⟩, fun ⟨f, a, b⟩ => ⟨f, a, b.symm⟩⟩
theorem upd_nm {L : List Fo} {n : Nm} {h : Fo → Fo} (hh : ∀ f, (h f).nm = f.nm) : (upd L n h).map Fo.nm = L.map Fo.nm := by
  unfold upd
  rw [List.map_map]
  refine List.map_congr_left fun f _ => ?_
  simp only [Function.comp_apply]
  split
  · exact hh f
  · rfl
theorem upd_g {L : List Fo} {n : Nm} {h : Fo → Fo} (hh : ∀ f, (h f).g = f.g) : (upd L n h).map Fo.g = L.map Fo.g := by
  unfold upd
  rw [List.map_map]
  refine List.map_congr_left fun f _ => ?_
  simp only [Function.comp_apply]
  split
  · exact hh f
  · rfl
theorem rise_iff {L : List Fo} : Rise L ↔ (L.map Fo.nm).Pairwise Lt := by unfold Rise; rw [List.pairwise_map]
theorem rise_upd {L : List Fo} {n : Nm} {h : Fo → Fo} (hr : Rise L) (hh : ∀ f, (h f).nm = f.nm) : Rise (upd L n h) := by
  rw [rise_iff, upd_nm hh, ← rise_iff]; exact hr
theorem len_ins (x : Fo) : ∀ L : List Fo, (ins x L).length = L.length + 1
  | [] => rfl
  | y :: L => by
    unfold ins
    split
    · rfl
    · rw [List.length_cons, len_ins x L, List.length_cons]
theorem total_ins (x : Fo) : ∀ L : List Fo, total (ins x L) = x.bs.length + total L
  | [] => by simp [ins, total]
  | y :: L => by
    unfold ins
    split
    · simp [total]
    · have := total_ins x L
      unfold total at this ⊢
      rw [List.map_cons, List.sum_cons, this, List.map_cons, List.sum_cons]; omega
theorem total_upd {n : Nm} {h : Fo → Fo} {f : Fo} : ∀ {L : List Fo}, Rise L → f ∈ L → f.nm = n → total (upd L n h) + f.bs.length = total L + (h f).bs.length
  | [], _, hf, _ => by cases hf
  | y :: L, hr, hf, e => by
    obtain ⟨h1, h2⟩ := List.pairwise_cons.1 hr
    rcases List.mem_cons.1 hf with rfl | hf
    · have hrest : upd L n h = L := by
        unfold upd
        refine (List.map_congr_left fun z hz => ?_).trans (List.map_id L)
        rw [if_neg fun e2 => (h1 z hz).ne (e.trans e2.symm)]; rfl
      have : upd (f :: L) n h = h f :: L := by
        have : upd (f :: L) n h = (if f.nm = n then h f else f) :: upd L n h := rfl
        rw [this, if_pos e, hrest]
      rw [this]
      simp [total]; omega
    · have ih := total_upd (h := h) h2 hf e
      have hy : y.nm ≠ n := fun e2 => (h1 f hf).ne (e2.trans e.symm)
      have : upd (y :: L) n h = y :: upd L n h := by
        have : upd (y :: L) n h = (if y.nm = n then h y else y) :: upd L n h := rfl
        rw [this, if_neg hy]
      rw [this]
      simp [total] at ih ⊢
      omega
theorem total_del {n : Nm} {f : Fo} : ∀ {L : List Fo}, Rise L → f ∈ L → f.nm = n → total (del L n) + f.bs.length = total L
  | [], _, hf, _ => by cases hf
  | y :: L, hr, hf, e => by
    obtain ⟨h1, h2⟩ := List.pairwise_cons.1 hr
    rcases List.mem_cons.1 hf with rfl | hf
    · have hrest : del L n = L := by
        unfold del
        refine List.filter_eq_self.2 fun z hz => ?_
        have := (h1 z hz).ne
        simp; intro e2; exact this (e.trans e2.symm)
      have : del (f :: L) n = L := by
        show (f :: L).filter _ = L
        rw [List.filter_cons_of_neg (by simp [e])]
        exact hrest
      rw [this]
      simp [total]; omega
    · have ih := total_del h2 hf e
      have hy : y.nm ≠ n := fun e2 => (h1 f hf).ne (e2.trans e.symm)
      have : del (y :: L) n = y :: del L n := by
        show (y :: L).filter _ = _
        rw [List.filter_cons_of_pos (by simp [hy])]; rfl
      rw [this]
      simp [total] at ih ⊢
      omega

/-! A map's datum of such a list: the names are the keys, each element's number is its block's. -/
def enc (f : Fo) : Lit × DataW Unit := (.string f.nm, .lit (.int .i64 (f.g : Int)))
def DE (L : List Fo) : DataW Unit := .map (L.map enc)
/-- What a pointer of the map reads as. -/
def ptrR : Value → Option (DataW Unit × List MemPlace)
  | .pointer none => some (.nil, [])
  | .pointer (some ⟨g, 0, none⟩) => some (.lit (.int .i64 (g : Int)), [])
  | _ => none
theorem ptrR_nil : ptrR (.pointer none) = some (.nil, []) := rfl
theorem ptrR_some (g : Nat) : ptrR (.pointer (some ⟨g, 0, none⟩)) = some (.lit (.int .i64 (g : Int)), []) := rfl
theorem ptrR_inv {v : Value} {y : DataW Unit × List MemPlace} (h : ptrR v = some y) : (v = .pointer none ∧ y.1 = .nil) ∨ ∃ g : Nat, v = .pointer (some ⟨g, 0, none⟩) ∧ y.1 = .lit (.int .i64 (g : Int)) := by
  unfold ptrR at h
  split at h
  · cases h; exact .inl ⟨rfl, rfl⟩
  · cases h; exact .inr ⟨_, rfl, rfl⟩
  · cases h

theorem insert_enc (x : Fo) : ∀ L : List Fo, DataW.insert (enc x) (L.map enc) = (ins x L).map enc
  | [] => rfl
  | y :: L => by
    show (if (enc x).1.before (enc y).1 then enc x :: enc y :: L.map enc else enc y :: DataW.insert (enc x) (L.map enc)) = (if bytesBefore x.nm y.nm then x :: y :: L else y :: ins x L).map enc
    rw [insert_enc x L]
    show (if bytesBefore x.nm y.nm then _ else _) = _
    split <;> rfl
theorem del_DE (L : List Fo) (n : Nm) : (DE L).del (.string n) = DE (del L n) := by
  unfold DE del
  rw [DataW.del_eq]
  congr 1
  unfold ChangeMaps.delKey
  rw [List.filter_map]
  rfl
theorem put_DE (L : List Fo) (x : Fo) : (DE L).put (.string x.nm) (.lit (.int .i64 (x.g : Int))) = DE (ins x (del L x.nm)) := by
  have h := del_DE L x.nm
  unfold DE at h ⊢
  rw [DataW.put_eq]
  congr 1
  rw [DataW.del_eq] at h
  injection h with h
  unfold ChangeMaps.putKey
  unfold ChangeMaps.delKey at h
  rw [h]
  exact insert_enc x _
theorem atKey_DE (L : List Fo) (n : Nm) (z : DataW Unit) : (DE L).atKey (.string n) z = match find L n with | some f => .lit (.int .i64 (f.g : Int)) | none => z := by
  have h : ((L.map enc).find? fun p => p.1.sameKey (.string n)) = (find L n).map enc := by
    rw [List.find?_map]
    rfl
  unfold DE DataW.atKey
  simp only [h]
  cases find L n <;> rfl
theorem size_DE (L : List Fo) : Maps.size (DE L) = L.length := by simp [DE, Maps.size]
theorem keys_DE (L : List Fo) : strKeys (DE L) = L.map Fo.nm := by
  unfold DE strKeys
  simp only [List.map_map]
  rfl
theorem has_DE (L : List Fo) (n : Nm) : Maps.has (DE L) (.string n) = (find L n).isSome := by
  unfold DE
  rw [Maps.has_eq, List.any_map]
  unfold find
  rw [List.isSome_find?]
  rfl
end Go.Proofs.Ytdbkhigocjmfoaa.DskM

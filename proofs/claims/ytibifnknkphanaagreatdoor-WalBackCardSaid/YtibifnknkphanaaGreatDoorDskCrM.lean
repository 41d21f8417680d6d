/-
  A loss of power, plainly; what the walk of Crash carries from file to file.
-/
import Derived.Test.YtibifnknkphanaaGreatDoorDskEach
import Derived.Test.YtibifnknkphanaaGreatDoorDskRens
import Derived.Test.YtibifnknkphanaaGreatDoorDskLook
import Derived.Test.YtibifnknkphanaaGreatDoorDskAppA
import Derived.Test.YtibifnknkphanaaGreatDoorRnd
namespace Go.Proofs.YtibifnknkphanaaGreatDoor
open Go.RowKit Go.Maps Go.Shelf
open DskM
set_option linter.unusedVariables false
set_option linter.unusedSimpArgs false
set_option maxRecDepth 20000

/-! How many bytes of a file are kept, and the numbers that are left. -/
def keptN (la len : Nat) (keep : List Int) : Nat × List Int :=
  if la < len then (match keep with | [] => (la, []) | k :: r => (la + (max k 0).toNat % (len - la + 1), r)) else (la, keep)
def crashP : List Int → List Fp → List Fp
  | _, [] => []
  | keep, x :: r => (x.1, x.2.1.take (keptN x.2.2 x.2.1.length keep).1, (keptN x.2.2 x.2.1.length keep).1) :: crashP (keptN x.2.2 x.2.1.length keep).2 r
def restP : List Int → List Fp → List Int
  | keep, [] => keep
  | keep, x :: r => restP (keptN x.2.2 x.2.1.length keep).2 r
theorem crashP_snoc (x : Fp) : ∀ (l : List Fp) (keep : List Int), crashP keep (l ++ [x]) = crashP keep l ++ [(x.1, x.2.1.take (keptN x.2.2 x.2.1.length (restP keep l)).1, (keptN x.2.2 x.2.1.length (restP keep l)).1)]
  | [], _ => rfl
  | y :: l, keep => by
    show _ :: crashP _ (l ++ [x]) = _
    rw [crashP_snoc x l]
    rfl
theorem restP_snoc (x : Fp) : ∀ (l : List Fp) (keep : List Int), restP keep (l ++ [x]) = (keptN x.2.2 x.2.1.length (restP keep l)).2
  | [], _ => rfl
  | y :: l, keep => by
    show restP _ (l ++ [x]) = _
    rw [restP_snoc x l]
    rfl
theorem keptN_le {la len : Nat} (h : la ≤ len) (keep : List Int) : la ≤ (keptN la len keep).1 ∧ (keptN la len keep).1 ≤ len := by
  unfold keptN
  split
  · rename_i hl
    split
    · exact ⟨Nat.le_refl _, h⟩
    · rename_i k r
      have := Nat.mod_lt (max k 0).toNat (show 0 < len - la + 1 by omega)
      omega
  · exact ⟨Nat.le_refl _, h⟩
theorem keptN_none {la len : Nat} (h : ¬ la < len) (keep : List Int) : keptN la len keep = (la, keep) := if_neg h
theorem keptN_nil (la len : Nat) : keptN la len [] = (la, []) := by unfold keptN; split <;> rfl
theorem keptN_cons {la len : Nat} (h : la < len) (k : Int) (r : List Int) : keptN la len (k :: r) = (la + (max k 0).toNat % (len - la + 1), r) := if_pos h
theorem keptN_emod {la len : Nat} (h : la < len) (hl : len ≤ 16777216) (k : Int) (r : List Int) : wrap64 ((la : Int) + max k 0 % ((len : Int) - (la : Int) + 1)) = ((keptN la len (k :: r)).1 : Int) := by
  rw [keptN_cons h]
  have h0 : 0 ≤ max k 0 := by omega
  obtain ⟨q, hq⟩ : ∃ q : Nat, max k 0 = (q : Int) := ⟨_, (Int.toNat_of_nonneg h0).symm⟩
  have e : (len : Int) - (la : Int) + 1 = ((len - la + 1 : Nat) : Int) := by omega
  rw [hq, e, ← Int.natCast_emod]
  have := Nat.mod_lt q (show 0 < len - la + 1 by omega)
  show wrap64 _ = ((la + (q : Int).toNat % (len - la + 1) : Nat) : Int)
  rw [Int.toNat_natCast]
  unfold wrap64
  omega
theorem crashP_names : ∀ (l : List Fp) (keep : List Int), (crashP keep l).map (·.1) = l.map (·.1)
  | [], _ => rfl
  | x :: l, keep => by
    show _ :: (crashP _ l).map _ = _ :: _
    rw [crashP_names l]

/-! Numbers in memory. -/
def SlN (w : World) (v : Value) (O : List Int) : Prop :=
  ∃ A c, v = .slice A O.length c ∧ O.length ≤ c ∧ c ≤ 9223372036854775807 ∧ (0 < O.length → ∃ b o, A = some ⟨b, o, none⟩ ∧ ∀ j (h : j < O.length), w.cell? ⟨b, o + j, none⟩ = some (.int .i64 O[j]))
theorem SlN.below {w w' : World} {v : Value} {O : List Int} (h : SlN w v O) (hb : Below w.heap.size w w') : SlN w' v O := by
  obtain ⟨A, c, rfl, hc, hc2, ha⟩ := h
  refine ⟨A, c, rfl, hc, hc2, fun h0 => ?_⟩
  obtain ⟨b, o, e, hx⟩ := ha h0
  exact ⟨b, o, e, fun j hj => (hb.cell (World.block_lt_of_cell? w _ (hx j hj))).trans (hx j hj)⟩
theorem SlN.nil (w : World) (A : Option Addr) (c : Nat) (hc : c ≤ 9223372036854775807) : SlN w (.slice A 0 c) [] := ⟨A, c, rfl, Nat.zero_le _, hc, fun h => absurd h (by simp)⟩

theorem Sl.front {w : World} {A : Option Addr} {m c : Nat} {L : List UInt8} (h : Sl w (.slice A m c) L) (a : Nat) (ha : a ≤ m) : Sl w (.slice A a c) (L.take a) := by
  obtain ⟨A', c', e, hc, hx⟩ := h
  injection e with e1 e2 e3
  subst e1; subst e3
  have hl : (L.take a).length = a := by rw [List.length_take]; omega
  refine ⟨A, c, by rw [hl], by omega, fun h0 => ?_⟩
  rw [hl] at h0
  obtain ⟨b, o, e, hy⟩ := hx (by omega)
  exact ⟨b, o, e, fun j hj => by rw [hl] at hj; rw [hy j (by omega), List.getElem_take]⟩
section
variable {w w' W W' : World} {p m : Nat} {S S' : Ds} {L : List Fo} {B : Nat}
/-- A file in the place of the one that had its name, or more. -/
theorem Dk.over (h : Dk W p m S L) {f' : Fo} (hlt : ∀ i, Foot p m L i → i < B) (hg : B ≤ f'.g) (hv : ∀ i, f'.v.ownBlock = some i → B ≤ i) (hk : Keep (fun i => i = m ∨ B ≤ i) W W') {q : Nat}
    (hm : W'.ownsMap Tryz.prog 9 ptrR m q (DE (ins f' (del L f'.nm)))) (hF : FoAt W' f') (hr : total (del L f'.nm) + f'.bs.length ≤ S.cap) (hfew : (del L f'.nm).length < 64) : Dk W' p m S (ins f' (del L f'.nm)) := by
  have hx := ownsMap_exact hm
  rw [size_DE] at hx
  have hfn : ∀ y ∈ del L f'.nm, y.nm ≠ f'.nm := fun y hy => (mem_del.1 hy).2
  have hsub : ∀ y ∈ del L f'.nm, y ∈ L := fun y hy => (mem_del.1 hy).1
  refine ⟨h.blk.kept hk ?_, hx, rise_ins (rise_del h.rise _) hfn, fun f hf => ?_, fun x hx y hy hne => ?_, h.cap1, h.cap2, by rw [total_ins]; omega, by rw [len_ins]; omega, h.fuse1, h.fuse2⟩
  · rintro (e | e)
    · exact h.ne_map e.symm
    · have := hlt p (.inl rfl); omega
  · rcases mem_ins.1 hf with rfl | hf
    · exact hF
    · have hf := hsub f hf
      refine (h.file f hf).kept hk ?_ ?_
      · rintro (e | e)
        · exact h.fm hf e.symm
        · have := hlt f.g (.inr (.inr ⟨f, hf, .inl rfl⟩)); omega
      · rintro i hi (e | e)
        · subst e; exact h.rm hf hi
        · have := hlt i (.inr (.inr ⟨f, hf, .inr hi⟩)); omega
  · have key : ∀ z ∈ L, f'.g ≠ z.g ∧ ∀ i, f'.v.ownBlock = some i → z.v.ownBlock ≠ some i := fun z hz =>
      ⟨fun e => by have := hlt z.g (.inr (.inr ⟨z, hz, .inl rfl⟩)); omega, fun i hi e => by have := hlt i (.inr (.inr ⟨z, hz, .inr e⟩)); have := hv i hi; omega⟩
    rcases mem_ins.1 hx with ex | hx1 <;> rcases mem_ins.1 hy with ey | hy1
    · exact absurd (by rw [ex, ey]) hne
    · rw [ex]; exact key y (hsub y hy1)
    · obtain ⟨a, b⟩ := key x (hsub x hx1)
      rw [ey]
      exact ⟨fun e => a e.symm, fun i hi e => b i e hi⟩
    · exact h.apart x (hsub x hx1) y (hsub y hy1) hne
/-- A turn of a block that holds no cells, and lies behind the map, leaves a disk. -/
theorem Dk.own (h : Dk W p m S L) {row : Option Nat} (hg : W.grownBy W' row) (hr : ∀ r, row = some r → B ≤ r ∧ ∃ o : Obj, W.heap[r]? = some o ∧ o.isCells = false) (hm : m < B) : Dk W' p m S L := by
  refine h.kept (Keep.of_grown (S := fun i => row = some i) hg (fun k e => e)) ?_
  have hc : ∀ (i : Nat) (t : TypeId) (cs : Array Value), Blk W i t cs → ¬ row = some i := fun i t cs hb e => by
    obtain ⟨_, o, ho, hoc⟩ := hr i e
    unfold Blk at hb
    rw [hb] at ho
    cases ho
    cases hoc
  rintro i (rfl | rfl | ⟨f, hf, rfl | hi⟩) e
  · exact hc _ _ _ h.blk e
  · have := (hr _ e).1; omega
  · exact hc _ _ _ (h.file f hf).blk e
  · obtain ⟨cs, hb⟩ := (h.file f hf).row.isRow hi
    exact hc _ _ _ hb e
theorem Blk.own {t : TypeId} {g : Nat} {cs : Array Value} (h : Blk W g t cs) {row : Option Nat} (hg : W.grownBy W' row) (hr : ∀ r, row = some r → B ≤ r ∧ ∃ o : Obj, W.heap[r]? = some o ∧ o.isCells = false) : Blk W' g t cs :=
  (hg.block g h.lt (fun e => by
    obtain ⟨_, o, ho, hoc⟩ := hr g e.symm
    unfold Blk at h
    rw [h] at ho
    cases ho
    cases hoc)).trans h
theorem keepsFrom_of_keep {T : Nat → Prop} (h : Keep T W W') (hT : ∀ i, T i → i < B) : KeepsFrom B W W' :=
  ⟨h.size, fun k o hk ho _ => (h.block k (Array.getElem?_eq_some_iff.1 ho).1 (fun e => by have := hT k e; omega)).trans ho⟩
end
/-- What stands in the one is part of what stands in the other. -/
theorem total_sub : ∀ {L' L : List Fo}, Rise L' → Rise L → (∀ y ∈ L', ∃ f ∈ L, f.nm = y.nm ∧ y.bs.length ≤ f.bs.length) → total L' ≤ total L ∧ L'.length ≤ L.length
  | [], L, _, _, _ => ⟨by simp [total], Nat.zero_le _⟩
  | y :: L', L, hr, hL, h => by
    obtain ⟨h1, h2⟩ := List.pairwise_cons.1 hr
    obtain ⟨f, hf, e, hl⟩ := h y (List.mem_cons_self ..)
    have ht := total_del hL hf e
    have hlen : (del L y.nm).length + 1 ≤ L.length := by
      have : (del L y.nm).length < L.length := by
        refine List.length_filter_lt_length_iff_exists.2 ⟨f, hf, by simp [e]⟩
      omega
    have ih := total_sub h2 (rise_del hL y.nm) (fun z hz => by
      obtain ⟨g, hg, e2, hl2⟩ := h z (List.mem_cons_of_mem _ hz)
      exact ⟨g, mem_del.2 ⟨hg, fun e3 => (h1 z hz).ne (e3.symm.trans e2)⟩, e2, hl2⟩)
    have e3 : total (y :: L') = y.bs.length + total L' := by simp [total]
    rw [List.length_cons]
    omega
theorem ins_high {x : Fo} : ∀ {L : List Fo}, (∀ y ∈ L, Lt y.nm x.nm) → ins x L = L ++ [x]
  | [], _ => rfl
  | y :: L, h => by
    unfold ins
    rw [if_neg (by exact (h y (List.mem_cons_self ..)).asymm), ins_high (fun z hz => h z (List.mem_cons_of_mem _ hz))]
    rfl
theorem del_lacks {n : Nm} {L : List Fo} (h : ∀ y ∈ L, y.nm ≠ n) : del L n = L := List.filter_eq_self.2 fun z hz => by simp [h z hz]

/-! What holds between two files of Crash. -/
abbrev EntL (L : List Fo) := Ent (L.map Fo.nm) (L.map fun f => f.bs.length)
theorem zip_L (L : List Fo) : (L.map Fo.nm).zip (L.map fun f => f.bs.length) = L.map fun f => (f.nm, f.bs.length) := by
  induction L with
  | nil => rfl
  | cons f L ih => simp [ih]
theorem ent_is {L : List Fo} (x : EntL L) : ∃ f ∈ L, x.1 = (f.nm, f.bs.length) := by
  have h : ∀ y, y ∈ (L.map Fo.nm).zip (L.map fun f => f.bs.length) → y ∈ L.map fun f => (f.nm, f.bs.length) := fun y hy => zip_L L ▸ hy
  obtain ⟨f, hf, e⟩ := List.mem_map.1 (h x.1 x.2)
  exact ⟨f, hf, e.symm⟩
def allE (L : List Fo) : List (EntL L) := ((L.map Fo.nm).zip (L.map fun f => f.bs.length)).attach
theorem allE_len (L : List Fo) : (allE L).length = L.length := by simp [allE]
theorem allE_at (L : List Fo) (k : Nat) (h : k < (allE L).length) (h2 : k < L.length) : ((allE L)[k]).1 = (L[k].nm, L[k].bs.length) := by
  simp [allE]
/-- The last one that came, where all came in order. -/
theorem ent_last {L : List Fo} (hr : Rise L) {pre : List (EntL L)} {x : EntL L} (h : pre ++ [x] = (allE L).take (pre ++ [x]).length) :
    pre = (allE L).take pre.length ∧ ∃ hk : pre.length < L.length, x.1 = (L[pre.length].nm, L[pre.length].bs.length) := by
  rw [List.length_append, List.length_singleton] at h
  have hl : pre.length < (allE L).length := by
    have := congrArg List.length h
    rw [List.length_append, List.length_singleton, List.length_take] at this
    omega
  rw [List.take_succ_eq_append_getElem hl] at h
  obtain ⟨h1, h2⟩ := List.append_inj' h rfl
  refine ⟨h1, by rw [← allE_len]; exact hl, ?_⟩
  injection h2 with h2
  rw [h2]
  exact allE_at L _ hl (by rw [← allE_len]; exact hl)
def CrI (w0 : World) (p : Nat) (S : Ds) (L : List Fo) (keep : List Int) (s2 hi c mc : Nat) (pre : List (EntL L)) (W : World) : Prop :=
  Below w0.heap.size w0 W ∧ hi ≤ W.heap.size ∧ Blk W w0.heap.size 37 #[.pointer (some ⟨p, 0, none⟩)] ∧ Blk W s2 37 #[.pointer (some ⟨c, 0, none⟩)] ∧
    ∃ kv ks L', Blk W (w0.heap.size + 1) 35 #[kv] ∧ SlN w0 kv ks ∧ Dk W c mc ⟨S.cap, -1, false, 0⟩ L' ∧ (∀ i, Foot c mc L' i → i = c ∨ i = mc ∨ hi ≤ i) ∧
      (∀ y ∈ L', ∃ f ∈ L, f.nm = y.nm ∧ y.bs.length ≤ f.bs.length) ∧
      (pre = (allE L).take pre.length → plain L' = crashP keep ((plain L).take pre.length) ∧ ks = restP keep ((plain L).take pre.length))
theorem CrI.own {w0 : World} {p : Nat} {S : Ds} {L : List Fo} {keep : List Int} {s2 hi c mc : Nat} (h0 : w0.heap.size ≤ hi) (hmc : mc < hi) : OwnFrom hi (CrI w0 p S L keep s2 hi c mc) := by
  rintro pre X Y row ⟨hb, hs, b1, b2, kv, ks, L', b3, h4, h5, h6, h7, h8⟩ hg hr
  exact ⟨hb.grown hg hb.size (fun k e => by have := (hr k e).1; omega), Nat.le_trans hs hg.size, b1.own hg (fun r e => hr r e), b2.own hg (fun r e => hr r e), kv, ks, L', b3.own hg (fun r e => hr r e), h4, h5.own hg (fun r e => hr r e) hmc, h6, h7, h8⟩
theorem CrI.step {w0 : World} {p : Nat} {S : Ds} {L : List Fo} {keep : List Int} {s2 hi c mc : Nat} {pre : List (EntL L)} {x : EntL L} {W' : World} (hr : Rise L) {f f' : Fo} (hf : f ∈ L) (hx : x.1 = (f.nm, f.bs.length))
    (hb : Below w0.heap.size w0 W') (hs : hi ≤ W'.heap.size) (b1 : Blk W' w0.heap.size 37 #[.pointer (some ⟨p, 0, none⟩)]) (b2 : Blk W' s2 37 #[.pointer (some ⟨c, 0, none⟩)])
    {kv' : Value} {ks : List Int} {L' : List Fo} (b3 : Blk W' (w0.heap.size + 1) 35 #[kv']) (hk : SlN w0 kv' (keptN f.la f.bs.length ks).2) (hrL' : Rise L')
    (hd : Dk W' c mc ⟨S.cap, -1, false, 0⟩ (ins f' (del L' f'.nm))) (hft : ∀ i, Foot c mc L' i → i = c ∨ i = mc ∨ hi ≤ i) (hg : hi ≤ f'.g) (hv : ∀ i, f'.v.ownBlock = some i → hi ≤ i)
    (hsub : ∀ y ∈ L', ∃ f ∈ L, f.nm = y.nm ∧ y.bs.length ≤ f.bs.length) (hp : f'.p = (f.nm, f.bs.take (keptN f.la f.bs.length ks).1, (keptN f.la f.bs.length ks).1))
    (hall : pre = (allE L).take pre.length → plain L' = crashP keep ((plain L).take pre.length) ∧ ks = restP keep ((plain L).take pre.length)) :
    CrI w0 p S L keep s2 hi c mc (pre ++ [x]) W' := by
  have e1 : f'.nm = f.nm := congrArg (·.1) hp
  have e2 : f'.bs = f.bs.take (keptN f.la f.bs.length ks).1 := congrArg (·.2.1) hp
  refine ⟨hb, hs, b1, b2, kv', _, _, b3, hk, hd, ?_, ?_, ?_⟩
  · rintro i (rfl | rfl | ⟨y, hy, hi⟩)
    · exact .inl rfl
    · exact .inr (.inl rfl)
    · rcases mem_ins.1 hy with rfl | hy
      · rcases hi with rfl | hi
        · exact .inr (.inr hg)
        · exact .inr (.inr (hv i hi))
      · exact hft i (.inr (.inr ⟨y, (mem_del.1 hy).1, hi⟩))
  · intro y hy
    rcases mem_ins.1 hy with rfl | hy
    · exact ⟨f, hf, e1.symm, by rw [e2, List.length_take]; omega⟩
    · exact hsub y (mem_del.1 hy).1
  · intro h
    obtain ⟨h1, hk, h2⟩ := ent_last hr h
    obtain ⟨h3, h4⟩ := hall h1
    have hfk : f = L[pre.length] := by
      have h5 := hx.symm.trans h2
      injection h5 with h5 _
      exact rise_one hr hf (List.getElem_mem hk) h5
    have ht : (plain L).take (pre ++ [x]).length = (plain L).take pre.length ++ [f.p] := by
      rw [List.length_append, List.length_singleton, List.take_succ_eq_append_getElem (by rw [plain_len]; exact hk)]
      congr 2
      simp [plain, hfk]
    have hn : ∀ y ∈ L', Lt y.nm f'.nm := by
      intro y hy
      have h6 : y.nm ∈ (plain L').map (·.1) := List.mem_map.2 ⟨y.p, List.mem_map.2 ⟨y, hy, rfl⟩, rfl⟩
      rw [h3, crashP_names] at h6
      obtain ⟨q, hq, e⟩ := List.mem_map.1 h6
      obtain ⟨j, hj, rfl⟩ := List.getElem_of_mem hq
      rw [List.length_take, plain_len] at hj
      have h7 := List.pairwise_iff_getElem.1 hr j pre.length (by omega) hk (by omega)
      rw [e1, hfk, ← e]
      simpa [plain, Fo.p] using h7
    rw [ht, crashP_snoc, restP_snoc, del_lacks (fun y hy => (hn y hy).ne), ins_high hn]
    show plain (L' ++ [f']) = _ ∧ _
    rw [h4] at hp ⊢
    refine ⟨?_, rfl⟩
    rw [show plain (L' ++ [f']) = plain L' ++ [f'.p] by simp [plain], h3, hp]
    rfl
/-- The end of a round of Crash: the file has been put. -/
theorem crash_end {w W W2 W4 W5 : World} {p s2 hi c mc g' nn q : Nat} {S : Ds} {L L' : List Fo} {keep ks : List Int} {pre : List (EntL L)} {x : EntL L} {f : Fo} {kvx A3v : Value}
    (hr : Rise L) (hroom : total L ≤ S.cap) (hfew : L.length ≤ 64) (hf : f ∈ L) (hx : x.1 = (f.nm, f.bs.length)) (hfa : f.la ≤ f.bs.length) (hmay : mayB f.nm = true)
    (hz : w.heap.size + 2 ≤ s2) (hhi : s2 + 1 ≤ hi) (hc : w.heap.size + 2 ≤ c ∧ c < s2) (hmc : w.heap.size + 2 ≤ mc ∧ mc < s2) (hhW : hi ≤ W.heap.size)
    (hbd : Blk W w.heap.size 37 #[.pointer (some ⟨p, 0, none⟩)])
    (hft : ∀ i, Foot c mc L' i → i = c ∨ i = mc ∨ hi ≤ i) (hsub : ∀ y ∈ L', ∃ f ∈ L, f.nm = y.nm ∧ y.bs.length ≤ f.bs.length)
    (hall : pre = (allE L).take pre.length → plain L' = crashP keep ((plain L).take pre.length) ∧ ks = restP keep ((plain L).take pre.length))
    (hb2 : Below w.heap.size w W2) (hk2 : Keep (fun i => i = w.heap.size + 1) W W2) (hkb : Blk W2 (w.heap.size + 1) 35 #[kvx]) (hd2 : Dk W2 c mc ⟨S.cap, -1, false, 0⟩ L')
    (hb4 : Below W2.heap.size W2 W4) (hd4 : Dk W4 c mc ⟨S.cap, -1, false, 0⟩ L') (hBf : Blk W4 g' 110 #[A3v, .int .i64 (nn : Int)]) (hof : Own W4 W2.heap.size 5 A3v (f.bs.take nn)) (hg' : W2.heap.size ≤ g') (hc4 : Blk W4 s2 37 #[.pointer (some ⟨c, 0, none⟩)])
    (hown : W5.ownsMap Tryz.prog 9 ptrR mc q ((DE L').put (.string f.nm) (.lit (.int .i64 (g' : Int))))) (hgr : W4.grownBy W5 (some mc))
    (hnn : nn = (keptN f.la f.bs.length ks).1) (hkv : SlN w kvx (keptN f.la f.bs.length ks).2) :
    (KeepsFrom hi W W5 ∧ Mid (s2 + 1) hi W W5) ∧ CrI w p S L keep s2 hi c mc (pre ++ [x]) W5 ∧ Dk W5 c mc ⟨S.cap, -1, false, 0⟩ (ins ⟨f.nm, f.bs.take nn, nn, g', A3v⟩ (del L' f.nm)) := by
  obtain ⟨f', hf'⟩ : ∃ f' : Fo, f' = ⟨f.nm, f.bs.take nn, nn, g', A3v⟩ := ⟨_, rfl⟩
  have e1 : f'.nm = f.nm := by rw [hf']
  have e2 : f'.p = (f.nm, f.bs.take nn, nn) := by rw [hf']; rfl
  have e3 : f'.g = g' := by rw [hf']
  have e4 : f'.v = A3v := by rw [hf']
  have e5 : f'.bs = f.bs.take nn := by rw [hf']
  have e6 : f'.la = nn := by rw [hf']
  have hnl : nn ≤ f.bs.length := by rw [hnn]; exact (keptN_le hfa ks).2
  have hlen : f'.bs.length = nn := by rw [e5, List.length_take]; omega
  rw [← hf']
  have hz2 := hk2.size
  have hz4 := hb4.size
  have hz5 := hgr.size
  have hput := put_DE L' f'
  rw [e1, e3] at hput
  rw [hput, ← e1] at hown
  rw [← e1]
  have hk5 : Keep (fun i => i = mc) W4 W5 := Keep.of_grown hgr (fun k e => by injection e with e; exact e.symm)
  have hk : Keep (fun i => i = w.heap.size + 1 ∨ i = mc) W W5 := (hk2.trans (Keep.of_below (S := fun i => i = w.heap.size + 1) hb4) (fun _ h => h) (fun _ _ h => h)).trans hk5 (fun _ h => .inl h) (fun _ _ h => .inr h)
  have hown' : ∀ i, f'.v.ownBlock = some i → W2.heap.size ≤ i := fun i hi => (hof.lt i (by rw [← e4]; exact hi)).1
  have hF4 : FoAt W4 f' := ⟨by rw [e3, hf']; exact hBf, by rw [e4, e5]; exact hof.mono (Nat.zero_le _), by rw [e6, hlen]; exact Nat.le_refl _, by rw [e1]; exact hmay⟩
  have hmW2 := hd2.lt mc (.inr (.inl rfl))
  have hF5 := hF4.kept hk5 (fun e => by rw [e3] at e; omega) (fun i hi e => by have := hown' i hi; omega)
  have hds : ∀ y ∈ del L' f'.nm, ∃ z ∈ del L f'.nm, z.nm = y.nm ∧ y.bs.length ≤ z.bs.length := fun y hy => by
    obtain ⟨h1, h2⟩ := mem_del.1 hy
    obtain ⟨z, hz, a, b⟩ := hsub y h1
    exact ⟨z, mem_del.2 ⟨hz, fun e => h2 (a.symm.trans e)⟩, a, b⟩
  obtain ⟨t1, t2⟩ := total_sub (rise_del hd4.rise f'.nm) (rise_del hr f'.nm) hds
  have t3 := total_del hr hf e1.symm
  have t4 : (del L f'.nm).length < L.length := List.length_filter_lt_length_iff_exists.2 ⟨f, hf, by simp [e1]⟩
  have hdN : Dk W5 c mc ⟨S.cap, -1, false, 0⟩ (ins f' (del L' f'.nm)) :=
    hd4.over (B := W2.heap.size) hd2.lt (by rw [e3]; exact hg') hown' (hk5.mono fun i e => .inl e) hown hF5 (by rw [hlen]; show total (del L' f'.nm) + nn ≤ S.cap; omega) (by omega)
  have hb5 : Below w.heap.size w W5 := Keep.below (hb2.trans (hb4.mono hb2.size)) hk5 (by have := hb2.size; omega) (fun i e => by omega)
  refine ⟨⟨keepsFrom_of_keep hk (fun i e => by omega), Mid.of_keep hk hhW (fun k h1 h2 e => by omega)⟩, ?_, hdN⟩
  refine CrI.step (f' := f') (ks := ks) (L' := L') hr hf hx hb5 (by omega) (hbd.kept hk (fun e => by omega)) (hc4.kept hk5 (fun e => by omega)) ((hkb.below hb4 hkb.lt).kept hk5 (fun e => by omega)) hkv hd2.rise hdN hft (by rw [e3]; omega) (fun i hi => by have := hown' i hi; omega) hsub (by rw [e2, ← hnn]) hall
end Go.Proofs.YtibifnknkphanaaGreatDoor

/-
  What Rename does.
-/
import Derived.Test.YtdbkhigocjmfoaaDskCut2
import Derived.Test.YtdbkhigocjmfoaaCtxStill
import Derived.Deep.DeepCutAuto
import Derived.BigQuiet
namespace Go.Proofs.Ytdbkhigocjmfoaa
open Go.RowKit Go.Maps
open DskM
set_option linter.unusedVariables false
set_option linter.unusedSimpArgs false
set_option maxRecDepth 20000

theorem len_del : ∀ {L : List Fo} {f : Fo} {n : Nm}, f ∈ L → f.nm = n → (del L n).length + 1 ≤ L.length
  | [], _, _, hf, _ => by cases hf
  | x :: L, f, n, hf, e => by
    by_cases hx : x.nm = n
    · have : del (x :: L) n = del L n := by show (x :: L).filter _ = _; rw [List.filter_cons_of_neg (by simp [hx])]; rfl
      rw [this, List.length_cons]
      have := List.length_filter_le (fun f : Fo => !(f.nm == n)) L
      show (L.filter _).length + 1 ≤ _
      omega
    · have : del (x :: L) n = x :: del L n := by show (x :: L).filter _ = _; rw [List.filter_cons_of_pos (by simp [hx])]; rfl
      rw [this, List.length_cons, List.length_cons]
      rcases List.mem_cons.1 hf with rfl | hf
      · exact absurd e hx
      · have := len_del hf e; omega
section
variable {w w' W W' : World} {p m : Nat} {S S' : Ds} {L : List Fo} {B : Nat}
/-- A file has another name. -/
theorem Dk.renamed (h : Dk W p m S L) {f : Fo} (hf : f ∈ L) (t : Nm) (ht : mayB t = true) {q : Nat} (k : Keep (fun i => i = m) W W') (hm : W'.ownsMap Try.prog 9 ptrR m q (DE (ins { f with nm := t } (del (del L f.nm) t)))) :
    Dk W' p m S (ins { f with nm := t } (del (del L f.nm) t)) := by
  obtain ⟨hb, hfl⟩ := h.keptMap k
  have hx := ownsMap_exact hm
  rw [size_DE] at hx
  have mem : ∀ {y : Fo}, y ∈ del (del L f.nm) t → y ∈ L ∧ y.nm ≠ f.nm ∧ y.nm ≠ t := fun hy => by
    obtain ⟨h1, h2⟩ := mem_del.1 hy
    obtain ⟨h3, h4⟩ := mem_del.1 h1
    exact ⟨h3, h4, h2⟩
  refine ⟨hb, hx, rise_ins (rise_del (rise_del h.rise _) _) (fun y hy => (mem hy).2.2), fun y hy => ?_, fun x hx y hy hne => ?_, h.cap1, h.cap2, ?_, ?_, h.fuse1, h.fuse2⟩
  · rcases mem_ins.1 hy with rfl | hy
    · have := hfl f hf
      exact ⟨this.blk, this.row, this.la, ht⟩
    · exact hfl y (mem hy).1
  · have key : ∀ z ∈ del (del L f.nm) t, f.g ≠ z.g ∧ ∀ i, f.v.ownBlock = some i → z.v.ownBlock ≠ some i := fun z hz => h.apart f hf z (mem hz).1 (fun e => (mem hz).2.1 e.symm)
    rcases mem_ins.1 hx with ex | hx1 <;> rcases mem_ins.1 hy with ey | hy1
    · exact absurd (by rw [ex, ey]) hne
    · rw [ex]; exact key y hy1
    · obtain ⟨a, b⟩ := key x hx1
      rw [ey]
      exact ⟨fun e => a e.symm, fun i hi e => b i e hi⟩
    · exact h.apart x (mem hx1).1 y (mem hy1).1 hne
  · rw [total_ins]
    have h1 := total_del_le (del L f.nm) t
    have h2 := total_del h.rise hf rfl
    have h3 := h.room
    show f.bs.length + _ ≤ _
    omega
  · rw [len_ins]
    have h1 := len_del hf (rfl : f.nm = f.nm)
    have h2 : (del (del L f.nm) t).length ≤ (del L f.nm).length := List.length_filter_le _ _
    have := h.few
    omega
theorem Foot.renamed {f : Fo} (hf : f ∈ L) {t : Nm} : ∀ i, Foot p m (ins { f with nm := t } (del (del L f.nm) t)) i → Foot p m L i := by
  rintro i (rfl | rfl | ⟨y, hy, hi⟩)
  · exact .inl rfl
  · exact .inr (.inl rfl)
  · rcases mem_ins.1 hy with rfl | hy
    · exact .inr (.inr ⟨f, hf, hi⟩)
    · exact .inr (.inr ⟨y, (mem_del.1 (mem_del.1 hy).1).1, hi⟩)

set_option maxHeartbeats 4000000 in
theorem ren1_any (bd bn bf bt : Nat) (s t : ByteArray) (f : Fo) (hf : f ∈ L) (hnm : f.nm = s.data.toList) (hms : mayB s.data.toList = true) (hmt : mayB t.data.toList = true) (hd : Dk W p m S L)
    (hBd : Blk W bd 23 #[.pointer (some ⟨p, 0, none⟩)]) (hBn : Blk W bn 9 #[.string s]) (hBf : Blk W bf 75 #[.pointer (some ⟨f.g, 0, none⟩)]) (hBt : Blk W bt 9 #[.string t]) :
    Calls Try.prog 55 #[.pointer (some ⟨bd, 0, none⟩), .pointer (some ⟨bn, 0, none⟩), .pointer (some ⟨bf, 0, none⟩), .pointer (some ⟨bt, 0, none⟩)] W fun e W' => e = .returned (.tuple #[]) ∧ Turn B W p m L S (insP (t.data.toList, f.bs, f.la) (delP (delP (plain L) s.data.toList) t.data.toList)) W' := by
  have hfo : Try.prog.follows .mixedOrders = true := by kernel_rfl
  have hsz : s.size ≤ maxLen := by have := may_size hms; unfold maxLen; omega
  have htz : t.size ≤ maxLen := by have := may_size hmt; unfold maxLen; omega
  have cd : W.cell? ⟨bd, 0, none⟩ = some (.pointer (some ⟨p, 0, none⟩)) := by rw [hBd.cell]; rfl
  have cn : W.cell? ⟨bn, 0, none⟩ = some (.string s) := by rw [hBn.cell]; rfl
  have cm := hd.c1
  have hown : W.drew.ownsMap Try.prog 9 ptrR m L.length (DE L) := hd.map.drew
  have hmb : ∀ (g : Nat) (t : TypeId) (cs : Array Value), Blk W g t cs → g ≠ m := fun g t cs hg e => ownsMap_notcells hd.map hg e.symm
  have HD := Lib.hid hd
  have HF := Lib.hid hf
  have HNM := Lib.hid hnm
  have HMT := Lib.hid hmt
  have HMB := Lib.hid hmb
  have HB := Lib.hid (And.intro hBd (And.intro hBf hBt))
  clear hd hf hnm hms hmt hBd hBn hBf hBt hmb
  go_enter Try.func55, Try.ntmps55
  go_wp2_with fail
  refine wp_region_still_tail 5 hfo (by kernel_rfl) ?_
  simp only [List.take_succ_cons, List.take_zero, List.drop_succ_cons, List.drop_zero]
  change wpStill _ _ W.drew (fun a' => wpList _ _ _ _ a' W.drew) _ _
  repeat still_step
  refine wpStill_nil ?_
  refine wpList_delete_own _ rfl (.tmp 7) (.tmp 8) 61 9 rfl 75 strKey Try.underlying61 ptrR m L.length (DE L) rfl hown (.string s) (.string s.data.toList) rfl (WideMaps.keyOf_string_mk Try.underlying9 hsz) ?_
  intro W2 hown2 hturn2
  rw [del_DE] at hown2
  have hk2 : Keep (fun i => i = m) W W2 := (Keep.of_below (S := fun i => i = m) (Below.refl W.heap.size W).drew).trans (Keep.of_grown (S := fun i => i = m) hturn2.grown (fun k e => by injection e with e; exact e.symm)) (fun _ h => h) (fun _ _ h => h)
  have hd2 := HD.out.less _ hk2 hown2
  have cd2 : W2.cell? ⟨bd, 0, none⟩ = some (.pointer (some ⟨p, 0, none⟩)) := by rw [(HB.out.1.kept hk2 (HMB.out _ _ _ HB.out.1)).cell]; rfl
  have cf2 : W2.cell? ⟨bf, 0, none⟩ = some (.pointer (some ⟨f.g, 0, none⟩)) := by rw [(HB.out.2.1.kept hk2 (HMB.out _ _ _ HB.out.2.1)).cell]; rfl
  have ct2 : W2.cell? ⟨bt, 0, none⟩ = some (.string t) := by rw [(HB.out.2.2.kept hk2 (HMB.out _ _ _ HB.out.2.2)).cell]; rfl
  have cm2 := hd2.c1
  have hown3 : W2.drew.ownsMap Try.prog 9 ptrR m (del L s.data.toList).length (DE (del L s.data.toList)) := hd2.map.drew
  have hfew : (del L s.data.toList).length < maxLen := by have := hd2.few; unfold maxLen; omega
  have HK2 := Lib.hid hk2
  clear hown2 hturn2 hd2 cd cn cm hown hk2
  go_wp2_with fail
  refine wp_region_still_tail 6 hfo (by kernel_rfl) ?_
  simp only [List.take_succ_cons, List.take_zero, List.drop_succ_cons, List.drop_zero]
  change wpStill _ _ W2.drew (fun a' => wpList _ _ _ _ a' W2.drew) _ _
  repeat still_step
  refine wpStill_nil ?_
  refine wpList_mapUpdate_own _ rfl (.tmp 12) (.tmp 13) (.tmp 14) 61 rfl 9 75 strKey Try.underlying61 ptrR m _ (DE (del L s.data.toList)) rfl hown3 hfew (.string t) (.pointer (some ⟨f.g, 0, none⟩)) (.string t.data.toList) rfl rfl (WideMaps.keyOf_string_mk Try.underlying9 htz) (.lit (.int .i64 (f.g : Int))) [] (ptrR_some _) ?_
  intro W3 hown4 hgr3
  have hk3 : Keep (fun i => i = m) W W3 := (HK2.out.trans (Keep.of_below (S := fun i => i = m) (Below.refl W2.heap.size W2).drew) (fun _ h => h) (fun _ _ h => h)).trans (Keep.of_grown (S := fun i => i = m) hgr3 (fun k e => by injection e with e; exact e.symm)) (fun _ h => h) (fun _ _ h => h)
  have e1 := put_DE (del L s.data.toList) { f with nm := t.data.toList }
  have hT : Turn B W p m L S (insP (t.data.toList, f.bs, f.la) (delP (delP (plain L) s.data.toList) t.data.toList)) W3 := by
    rw [show (DE (del L s.data.toList)).put (.string t.data.toList) (.lit (.int .i64 (f.g : Int))) = DE (ins { f with nm := t.data.toList } (del (del L s.data.toList) t.data.toList)) from e1] at hown4
    rw [← HNM.out] at hown4 ⊢
    refine ⟨_, ?_, HD.out.renamed HF.out t.data.toList HMT.out hk3 hown4, hk3.mono (fun i e => .inl (.inr (.inl e))), fun i hi => .inl (Foot.renamed HF.out i hi)⟩
    rw [ins_plain, del_plain, del_plain]
    rfl
  have HT := Lib.hid hT
  clear hT hown4 hgr3 hk3 e1 hown3 cd2 cf2 ct2 cm2
  go_wp2
  go_end0
  exact ⟨rfl, HT.out⟩
end
end Go.Proofs.Ytdbkhigocjmfoaa

/-
  The walk of Rename.
-/
namespace Go.Proofs.Ytdbkhigocjmfoaa
open Go.RowKit Go.Maps
open DskM
set_option linter.unusedVariables false
set_option linter.unusedSimpArgs false
set_option maxRecDepth 20000

theorem keeps_far {w X : World} (k : Keeps w X) {g : Nat} (hg : w.heap.size ≤ g) (v : Value) : Keeps w (X.setCell ⟨g, 0, none⟩ v) := fun p u hu => by
  have hp := World.block_lt_of_cell? w p hu
  have h1 := k p u hu
  have h2 : Below g X (X.setCell ⟨g, 0, none⟩ v) := (Below.refl g X).setCell (p := ⟨g, 0, none⟩) (Nat.le_refl _) v
  exact (World.cell?_of_block (h2.block p.block (by omega))).trans h1
section
variable {w w' W W' : World} {p m : Nat} {S S' : Ds} {L : List Fo} {B : Nat}
set_option maxHeartbeats 8000000 in
theorem ren_mid (PD : Option Addr) (s t : ByteArray) (PP : Option Addr) (c : Int) (hc : c = 0 ∨ c = 2 ∨ c = 6 ∨ c = 1)
    (hfi : ∀ X, Below w.heap.size w X → Calls Try.prog 52 #[.pointer PD, .string s, .bool (mayB t.data.toList)] X fun e X' => e = .returned (.tuple #[.pointer PP, .int .i64 c]) ∧ Below X.heap.size X X')
    (Q : Ending → World → Prop) (hbad : c ≠ 0 → ∀ X, Below w.heap.size w X → Q (.returned (.int .i64 c)) X)
    (hgood : c = 0 → ∀ X g, Below w.heap.size w X → w.heap.size ≤ g → Blk X w.heap.size 23 #[.pointer PD] → Blk X (w.heap.size + 1) 9 #[.string s] → Blk X (w.heap.size + 2) 9 #[.string t] → Blk X g 75 #[.pointer PP] →
      ∃ r : Value, Calls Try.prog 54 #[.pointer PD, .func (.func 55) #[] #[.pointer (some ⟨w.heap.size, 0, none⟩), .pointer (some ⟨w.heap.size + 1, 0, none⟩), .pointer (some ⟨g, 0, none⟩), .pointer (some ⟨w.heap.size + 2, 0, none⟩)], .func (.func 56) #[] #[]] X fun e X' => e = .returned r ∧ Q (.returned r) X') :
    Calls Try.prog 27 #[.pointer PD, .string s, .string t] w Q := by
  have hfo : Try.prog.follows .mixedOrders = true := by kernel_rfl
  obtain ⟨W0, hW0⟩ : ∃ W0, W0 = ((w.alloc (.cells #[.pointer PD] 23)).alloc (.cells #[.string s] 9)).alloc (.cells #[.string t] 9) := ⟨_, rfl⟩
  have hb0 : Below w.heap.size w W0 := by
    rw [hW0]
    exact (((Below.refl _ _).alloc (Nat.le_refl _) _).alloc (by simp) _).alloc (by simp; omega) _
  have hB1 : Blk W0 w.heap.size 23 #[.pointer PD] := by
    rw [hW0]; exact ((Blk.new w 23 #[.pointer PD]).alloc _).alloc _
  have hB2 : Blk W0 (w.heap.size + 1) 9 #[.string s] := by
    have e := (Blk.new (w.alloc (.cells #[.pointer PD] 23)) 9 #[.string s]).alloc (.cells #[.string t] 9)
    rw [hW0]; simpa using e
  have hB3 : Blk W0 (w.heap.size + 2) 9 #[.string t] := by
    have e := Blk.new ((w.alloc (.cells #[.pointer PD] 23)).alloc (.cells #[.string s] 9)) 9 #[.string t]
    rw [hW0]; simpa using e
  have hz0 : W0.heap.size = w.heap.size + 3 := by rw [hW0]; simp
  have cd : W0.cell? ⟨w.heap.size, 0, none⟩ = some (.pointer PD) := by rw [hB1.cell]; rfl
  have cn : W0.cell? ⟨w.heap.size + 1, 0, none⟩ = some (.string s) := by rw [hB2.cell]; rfl
  have ct : W0.cell? ⟨w.heap.size + 2, 0, none⟩ = some (.string t) := by rw [hB3.cell]; rfl
  have hN := Lib.hid (mayName_any t)
  have hF := Lib.hid hfi
  have hBAD := Lib.hid hbad
  have hGOOD := Lib.hid hgood
  have HZ := Lib.hid hz0
  have HBB := Lib.hid (And.intro hB1 (And.intro hB2 hB3))
  have HB0 := Lib.hid hb0
  have HC := Lib.hid hc
  clear hfi hbad hgood hz0 hB1 hB2 hB3 hb0 hc
  go_enter Try.func27, Try.ntmps27
  go_upto_region 1 with fail
  rw [← hW0]
  go_cut [7, 8] from 10 (fun x y wc => ∃ g, x = .pointer (some ⟨g, 0, none⟩) ∧ y = .int .i64 c ∧ Blk wc g 75 #[.pointer PP] ∧ w.heap.size + 3 ≤ g ∧ Below W0.heap.size W0 wc)
  case first =>
    clear hW0
    have cd : W0.drew.cell? ⟨w.heap.size, 0, none⟩ = some (.pointer PD) := cd
    have cn : W0.drew.cell? ⟨w.heap.size + 1, 0, none⟩ = some (.string s) := cn
    have ct : W0.drew.cell? ⟨w.heap.size + 2, 0, none⟩ = some (.string t) := ct
    have hb2 : Below W0.heap.size W0 W0.drew := (Below.refl _ _).drew
    have hd2 := HB0.out.trans (hb2.mono HB0.out.size)
    have hz2 : W0.drew.heap.size = W0.heap.size := rfl
    refine wp_region_held_drew (S := fun w' => Keeps W0.drew w') hfo (Keeps.refl _) (fun k0 => ?_)
    have HB2 := Lib.hid hb2
    have HW2 := Lib.hid hd2
    have HZ2 := Lib.hid hz2
    clear hb2 hd2 hz2
    generalize W0.drew = W2 at k0 cd cn ct HB2 HW2 HZ2 ⊢
    have b0 := Below.refl W2.heap.size W2
    refine' wpAnyH_take (i := 0) (oi := ⟨some 11, _, _, _, _, _⟩) (v := _) rfl (by kernel_rfl) (by kernel_rfl) (by kernel_rfl) (fun _ _ _ h => h) (Or.inl ⟨by rfl, ?y0⟩) k0 ?r0
    case y0 => (intro w' hSw; have e := hSw _ _ cd; go_simp; try rfl)
    try simp only [Act.put, List.setIfInBounds_toArray, List.set_cons_zero, List.set_cons_succ]
    refine' wpAnyH_take (i := 1) (oi := ⟨some 12, _, _, _, _, _⟩) (v := _) rfl (by kernel_rfl) (by kernel_rfl) (by kernel_rfl) (fun _ _ _ h => h) (Or.inl ⟨by rfl, ?y1⟩) k0 ?r1
    case y1 => (intro w' hSw; have e := hSw _ _ cn; go_simp; try rfl)
    try simp only [Act.put, List.setIfInBounds_toArray, List.set_cons_zero, List.set_cons_succ]
    refine' wpAnyH_take (i := 2) (oi := ⟨some 13, _, _, _, _, _⟩) (v := _) rfl (by kernel_rfl) (by kernel_rfl) (by kernel_rfl) (fun _ _ _ h => h) (Or.inl ⟨by rfl, ?y2⟩) k0 ?r2
    case y2 => (intro w' hSw; have e := hSw _ _ ct; go_simp; try rfl)
    try simp only [Act.put, List.setIfInBounds_toArray, List.set_cons_zero, List.set_cons_succ]
    refine held_two (i := 3) (j := 8) (by kernel_rfl) rfl rfl (fun K hK => ?_) (fun K hK => ?_)
    · go_simp
      refine (hN.out W2).mono ?_
      rintro e Wmp ⟨rfl, hmp⟩
      have kmp := k0.trans (Keeps.of_below hmp)
      have bmp := b0.trans (hmp.mono b0.size)
      refine hK.out _ _ kmp (fun _ => ?_)
      clear hK K
      try simp only [Act.put, List.setIfInBounds_toArray, List.set_cons_zero, List.set_cons_succ]
      refine held_two (i := 4) (j := 8) (by kernel_rfl) rfl rfl (fun K hK => ?_) (fun K hK => ?_)
      · go_simp
        refine (hF.out Wmp (HW2.out.trans (bmp.mono HW2.out.size))).mono ?_
        rintro e Wfpp ⟨rfl, hfpp⟩
        have kfpp := kmp.trans (Keeps.of_below hfpp)
        have bfpp := bmp.trans (hfpp.mono bmp.size)
        refine hK.out _ _ kfpp (fun _ => ?_)
        clear hK K
        try simp only [Act.put, List.setIfInBounds_toArray, List.set_cons_zero, List.set_cons_succ]
        refine' wpAnyH_take (i := 5) (oi := ⟨some 10, _, _, _, _, _⟩) (v := _) rfl (by kernel_rfl) (by kernel_rfl) (by kernel_rfl) (fun _ _ _ h => h) (Or.inl ⟨by rfl, ?y5pp⟩) kfpp ?r5pp
        case y5pp => (intro w' hSw; go_simp; try rfl)
        try simp only [Act.put, List.setIfInBounds_toArray, List.set_cons_zero, List.set_cons_succ]
        refine' wpAnyH_take (i := 6) (oi := ⟨some 16, _, _, _, _, _⟩) (v := _) rfl (by kernel_rfl) (by kernel_rfl) (by kernel_rfl) (fun _ _ _ h => h) (Or.inl ⟨by rfl, ?y6pp⟩) kfpp ?r6pp
        case y6pp => (intro w' hSw; go_simp; try rfl)
        try simp only [Act.put, List.setIfInBounds_toArray, List.set_cons_zero, List.set_cons_succ]
        refine' wpAnyH_take (i := 7) (oi := ⟨some 17, _, _, _, _, _⟩) (v := _) rfl (by kernel_rfl) (by kernel_rfl) (by kernel_rfl) (fun _ _ _ h => h) (Or.inl ⟨by rfl, ?y7pp⟩) kfpp ?r7pp
        case y7pp => (intro w' hSw; go_simp; try rfl)
        try simp only [Act.put, List.setIfInBounds_toArray, List.set_cons_zero, List.set_cons_succ]
        refine held_one (i := 8) (by kernel_rfl) rfl (fun K hK => ?_)
        go_simp
        have kapp := kfpp.trans (Keeps.of_below ((Below.refl Wfpp.heap.size Wfpp).alloc (Nat.le_refl _) (.cells #[.pointer none] 75)))
        have bapp := bfpp.alloc bfpp.size (.cells #[.pointer none] 75)
        have hgapp := Blk.new Wfpp 75 #[.pointer none]
        have hzapp : W2.heap.size ≤ Wfpp.heap.size := bfpp.size
        refine hK.out _ _ kapp (fun _ => ?_)
        clear hK K
        try simp only [Act.put, List.setIfInBounds_toArray, List.set_cons_zero, List.set_cons_succ]
        skip
        refine held_one (i := 9) (by kernel_rfl) rfl (fun K hK => ?_)
        go_simp
        have hsetpp := Blk.new Wfpp 75 #[.pointer PP]
        have k9pp : Keeps W2 (Wfpp.alloc (.cells #[.pointer PP] 75)) := kfpp.trans (Keeps.of_below ((Below.refl Wfpp.heap.size Wfpp).alloc (Nat.le_refl _) _))
        have b9pp : Below W2.heap.size W2 (Wfpp.alloc (.cells #[.pointer PP] 75)) := bfpp.alloc bfpp.size _
        refine hK.out _ _ k9pp (fun _ => ?_)
        clear hK K
        try simp only [Act.put, List.setIfInBounds_toArray, List.set_cons_zero, List.set_cons_succ]
        refine held_one (i := 10) (by kernel_rfl) rfl (fun K hK => ?_)
        go_simp
        refine hK.out _ _ k9pp (fun _ => ?_)
        clear hK K
        try simp only [Act.put, List.setIfInBounds_toArray, List.set_cons_zero, List.set_cons_succ]
        refine wpAnyH_done (by kernel_rfl) ?_ _
        go_wp2_with fail
        go_meet
        exact ⟨Wfpp.heap.size, rfl, rfl, hsetpp, by have := HZ.out; have := HZ2.out; have := hzapp; omega, HB2.out.trans (b9pp.mono HB2.out.size)⟩
      · go_simp
        have kapq := kmp.trans (Keeps.of_below ((Below.refl Wmp.heap.size Wmp).alloc (Nat.le_refl _) (.cells #[.pointer none] 75)))
        have bapq := bmp.alloc bmp.size (.cells #[.pointer none] 75)
        have hgapq := Blk.new Wmp 75 #[.pointer none]
        have hzapq : W2.heap.size ≤ Wmp.heap.size := bmp.size
        refine hK.out _ _ kapq (fun _ => ?_)
        clear hK K
        try simp only [Act.put, List.setIfInBounds_toArray, List.set_cons_zero, List.set_cons_succ]
        skip
        refine held_one (i := 4) (by kernel_rfl) rfl (fun K hK => ?_)
        go_simp
        refine (hF.out (Wmp.alloc (.cells #[.pointer none] 75)) (HW2.out.trans (bapq.mono HW2.out.size))).mono ?_
        rintro e Wfpq ⟨rfl, hfpq⟩
        have kfpq := kapq.trans (Keeps.of_below hfpq)
        have bfpq := bapq.trans (hfpq.mono bapq.size)
        have hgfpq := hgapq.below hfpq hgapq.lt
        refine hK.out _ _ kfpq (fun _ => ?_)
        clear hK K
        try simp only [Act.put, List.setIfInBounds_toArray, List.set_cons_zero, List.set_cons_succ]
        refine' wpAnyH_take (i := 5) (oi := ⟨some 10, _, _, _, _, _⟩) (v := _) rfl (by kernel_rfl) (by kernel_rfl) (by kernel_rfl) (fun _ _ _ h => h) (Or.inl ⟨by rfl, ?y5pq⟩) kfpq ?r5pq
        case y5pq => (intro w' hSw; go_simp; try rfl)
        try simp only [Act.put, List.setIfInBounds_toArray, List.set_cons_zero, List.set_cons_succ]
        refine' wpAnyH_take (i := 6) (oi := ⟨some 16, _, _, _, _, _⟩) (v := _) rfl (by kernel_rfl) (by kernel_rfl) (by kernel_rfl) (fun _ _ _ h => h) (Or.inl ⟨by rfl, ?y6pq⟩) kfpq ?r6pq
        case y6pq => (intro w' hSw; go_simp; try rfl)
        try simp only [Act.put, List.setIfInBounds_toArray, List.set_cons_zero, List.set_cons_succ]
        refine' wpAnyH_take (i := 7) (oi := ⟨some 17, _, _, _, _, _⟩) (v := _) rfl (by kernel_rfl) (by kernel_rfl) (by kernel_rfl) (fun _ _ _ h => h) (Or.inl ⟨by rfl, ?y7pq⟩) kfpq ?r7pq
        case y7pq => (intro w' hSw; go_simp; try rfl)
        try simp only [Act.put, List.setIfInBounds_toArray, List.set_cons_zero, List.set_cons_succ]
        refine held_one (i := 9) (by kernel_rfl) rfl (fun K hK => ?_)
        have zfpq := hgfpq.frozen 0
        have zcpq : (Wfpq).cell? ⟨Wmp.heap.size, 0, none⟩ = some (.pointer none) := by rw [hgfpq.cell]; rfl
        go_simp
        have hsetpq := hgfpq.set_ 0 (.pointer PP)
        have k9pq : Keeps W2 ((Wfpq).setCell ⟨Wmp.heap.size, 0, none⟩ (.pointer PP)) := keeps_far kfpq hzapq _
        have b9pq : Below W2.heap.size W2 ((Wfpq).setCell ⟨Wmp.heap.size, 0, none⟩ (.pointer PP)) := bfpq.setCell (p := ⟨Wmp.heap.size, 0, none⟩) hzapq _
        refine hK.out _ _ k9pq (fun _ => ?_)
        clear hK K
        try simp only [Act.put, List.setIfInBounds_toArray, List.set_cons_zero, List.set_cons_succ]
        refine held_one (i := 10) (by kernel_rfl) rfl (fun K hK => ?_)
        go_simp
        refine hK.out _ _ k9pq (fun _ => ?_)
        clear hK K
        try simp only [Act.put, List.setIfInBounds_toArray, List.set_cons_zero, List.set_cons_succ]
        refine wpAnyH_done (by kernel_rfl) ?_ _
        go_wp2_with fail
        go_meet
        exact ⟨Wmp.heap.size, rfl, rfl, hsetpq, by have := HZ.out; have := HZ2.out; have := hzapq; omega, HB2.out.trans (b9pq.mono HB2.out.size)⟩
    · go_simp
      have kaq := k0.trans (Keeps.of_below ((Below.refl W2.heap.size W2).alloc (Nat.le_refl _) (.cells #[.pointer none] 75)))
      have baq := b0.alloc b0.size (.cells #[.pointer none] 75)
      have hgaq := Blk.new W2 75 #[.pointer none]
      have hzaq : W2.heap.size ≤ W2.heap.size := b0.size
      refine hK.out _ _ kaq (fun _ => ?_)
      clear hK K
      try simp only [Act.put, List.setIfInBounds_toArray, List.set_cons_zero, List.set_cons_succ]
      skip
      refine held_one (i := 3) (by kernel_rfl) rfl (fun K hK => ?_)
      go_simp
      refine (hN.out (W2.alloc (.cells #[.pointer none] 75))).mono ?_
      rintro e Wmq ⟨rfl, hmq⟩
      have kmq := kaq.trans (Keeps.of_below hmq)
      have bmq := baq.trans (hmq.mono baq.size)
      have hgmq := hgaq.below hmq hgaq.lt
      refine hK.out _ _ kmq (fun _ => ?_)
      clear hK K
      try simp only [Act.put, List.setIfInBounds_toArray, List.set_cons_zero, List.set_cons_succ]
      refine held_one (i := 4) (by kernel_rfl) rfl (fun K hK => ?_)
      go_simp
      refine (hF.out Wmq (HW2.out.trans (bmq.mono HW2.out.size))).mono ?_
      rintro e Wfq ⟨rfl, hfq⟩
      have kfq := kmq.trans (Keeps.of_below hfq)
      have bfq := bmq.trans (hfq.mono bmq.size)
      have hgfq := hgmq.below hfq hgmq.lt
      refine hK.out _ _ kfq (fun _ => ?_)
      clear hK K
      try simp only [Act.put, List.setIfInBounds_toArray, List.set_cons_zero, List.set_cons_succ]
      refine' wpAnyH_take (i := 5) (oi := ⟨some 10, _, _, _, _, _⟩) (v := _) rfl (by kernel_rfl) (by kernel_rfl) (by kernel_rfl) (fun _ _ _ h => h) (Or.inl ⟨by rfl, ?y5q⟩) kfq ?r5q
      case y5q => (intro w' hSw; go_simp; try rfl)
      try simp only [Act.put, List.setIfInBounds_toArray, List.set_cons_zero, List.set_cons_succ]
      refine' wpAnyH_take (i := 6) (oi := ⟨some 16, _, _, _, _, _⟩) (v := _) rfl (by kernel_rfl) (by kernel_rfl) (by kernel_rfl) (fun _ _ _ h => h) (Or.inl ⟨by rfl, ?y6q⟩) kfq ?r6q
      case y6q => (intro w' hSw; go_simp; try rfl)
      try simp only [Act.put, List.setIfInBounds_toArray, List.set_cons_zero, List.set_cons_succ]
      refine' wpAnyH_take (i := 7) (oi := ⟨some 17, _, _, _, _, _⟩) (v := _) rfl (by kernel_rfl) (by kernel_rfl) (by kernel_rfl) (fun _ _ _ h => h) (Or.inl ⟨by rfl, ?y7q⟩) kfq ?r7q
      case y7q => (intro w' hSw; go_simp; try rfl)
      try simp only [Act.put, List.setIfInBounds_toArray, List.set_cons_zero, List.set_cons_succ]
      refine held_one (i := 9) (by kernel_rfl) rfl (fun K hK => ?_)
      have zfq := hgfq.frozen 0
      have zcq : (Wfq).cell? ⟨W2.heap.size, 0, none⟩ = some (.pointer none) := by rw [hgfq.cell]; rfl
      go_simp
      have hsetq := hgfq.set_ 0 (.pointer PP)
      have k9q : Keeps W2 ((Wfq).setCell ⟨W2.heap.size, 0, none⟩ (.pointer PP)) := keeps_far kfq hzaq _
      have b9q : Below W2.heap.size W2 ((Wfq).setCell ⟨W2.heap.size, 0, none⟩ (.pointer PP)) := bfq.setCell (p := ⟨W2.heap.size, 0, none⟩) hzaq _
      refine hK.out _ _ k9q (fun _ => ?_)
      clear hK K
      try simp only [Act.put, List.setIfInBounds_toArray, List.set_cons_zero, List.set_cons_succ]
      refine held_one (i := 10) (by kernel_rfl) rfl (fun K hK => ?_)
      go_simp
      refine hK.out _ _ k9q (fun _ => ?_)
      clear hK K
      try simp only [Act.put, List.setIfInBounds_toArray, List.set_cons_zero, List.set_cons_succ]
      refine wpAnyH_done (by kernel_rfl) ?_ _
      go_wp2_with fail
      go_meet
      exact ⟨W2.heap.size, rfl, rfl, hsetq, by have := HZ.out; have := HZ2.out; have := hzaq; omega, HB2.out.trans (b9q.mono HB2.out.size)⟩
  case rest =>
    obtain ⟨g, rfl, rfl, hg, hgz, hb5⟩ := hcut
    have hb6 := HB0.out.trans (hb5.mono HB0.out.size)
    have hC1 := HBB.out.1.below hb5 HBB.out.1.lt
    have hC2 := HBB.out.2.1.below hb5 HBB.out.2.1.lt
    have hC3 := HBB.out.2.2.below hb5 HBB.out.2.2.lt
    have cd : wc.cell? ⟨w.heap.size, 0, none⟩ = some (.pointer PD) := by rw [hC1.cell]; rfl
    rcases HC.out with rfl | rfl | rfl | rfl
    · obtain ⟨r, hr⟩ := hGOOD.out rfl wc g hb6 (by omega) hC1 hC2 hC3 hg
      have HR := Lib.hid hr
      clear hr hC1 hC2 hC3 hg hb5 hb6 hW0
      go_wp2_with fail
      refine HR.out.mono ?_
      rintro e w5 ⟨rfl, hq⟩
      have HQ := Lib.hid hq
      clear hq HR
      go_wp2_with fail
      exact HQ.out
    · have HQ := Lib.hid (hBAD.out (by decide) wc hb6)
      clear hC1 hC2 hC3 hg hb5 hb6 hW0
      go_wp2
      exact HQ.out
    · have HQ := Lib.hid (hBAD.out (by decide) wc hb6)
      clear hC1 hC2 hC3 hg hb5 hb6 hW0
      go_wp2
      exact HQ.out
    · have HQ := Lib.hid (hBAD.out (by decide) wc hb6)
      clear hC1 hC2 hC3 hg hb5 hb6 hW0
      go_wp2
      exact HQ.out
end
end Go.Proofs.Ytdbkhigocjmfoaa

/-
  The walk of Rename, in all its ways.
-/
namespace Go.Proofs.Ytdbkhigocjmfoaa
open Go.RowKit Go.Maps
open DskM
set_option linter.unusedVariables false
set_option linter.unusedSimpArgs false
set_option maxRecDepth 20000

section
variable {w w' W W' : World} {p m : Nat} {S S' : Ds} {L : List Fo} {B : Nat}
set_option maxHeartbeats 4000000 in
theorem rename_any (h : Dk w p m S L) (hw : S.wr ≤ 1000000) (s t : ByteArray) :
    Calls Try.prog 27 #[.pointer (some ⟨p, 0, none⟩), .string s, .string t] w (Res w p m L (renameS S (plain L) s.data.toList t.data.toList)) := by
  unfold renameS
  have hpl := h.blk.lt
  by_cases hmk : mayB s.data.toList = true ∧ mayB t.data.toList = true
  · rw [if_pos hmk]
    obtain ⟨hms, hmt⟩ := hmk
    rw [find_plain]
    cases hf : find L s.data.toList with
    | none =>
      refine ren_mid (some ⟨p, 0, none⟩) s t none 6 (.inr (.inr (.inl rfl))) (fun X hX => by rw [hmt]; exact find_lacks (h.below hX) s hms hf) _ (fun _ X hb => ⟨rfl, .same h hb⟩) (fun e => absurd e (by decide))
    | some f =>
      obtain ⟨hfm, hnm⟩ := find_mem hf
      refine ren_mid (some ⟨p, 0, none⟩) s t (some ⟨f.g, 0, none⟩) 0 (.inl rfl) (fun X hX => by rw [hmt]; exact find_there (h.below hX) s hms f hf) _ (fun e => absurd rfl e) (fun _ X g hb hg h1 h2 h3 h4 => ⟨.int .i64 (writeS S (insP (t.data.toList, f.bs, f.la) (delP (delP (plain L) s.data.toList) t.data.toList)) (plain L) (plain L)).1, ?_⟩)
      have hd := h.below hb
      have hwr := write_any (B := w.heap.size) hd hw 55 56 #[.pointer (some ⟨w.heap.size, 0, none⟩), .pointer (some ⟨w.heap.size + 1, 0, none⟩), .pointer (some ⟨g, 0, none⟩), .pointer (some ⟨w.heap.size + 2, 0, none⟩)] #[] (insP (t.data.toList, f.bs, f.la) (delP (delP (plain L) s.data.toList) t.data.toList)) (plain L)
        (enters_of Try.func55 (by kernel_rfl) rfl) enters_nothing
        (fun W hd' hk hz => ren1_any _ _ _ _ s t f hfm hnm hms hmt hd' (h1.kept hk (by omega)) (h2.kept hk (by omega)) (h4.kept hk (by omega)) (h3.kept hk (by omega)))
        (fun W hd' _ _ => nothing_turn W _ hd')
      refine hwr.mono ?_
      rintro e w5 ⟨rfl, ht⟩
      exact ⟨rfl, rfl, ht.from hb⟩
  · rw [if_neg hmk]
    exact ren_mid (some ⟨p, 0, none⟩) s t none 2 (.inr (.inl rfl)) (fun X hX => find_bad (h.below hX) s _ hmk) _ (fun _ X hb => ⟨rfl, .same h hb⟩) (fun e => absurd e (by decide))
end
end Go.Proofs.Ytdbkhigocjmfoaa

/-
  What a disk that is not there answers: nil, or one without a capacity.
-/
namespace Go.Proofs.Ytdbkhigocjmfoaa
open Go.RowKit Go.Maps
open DskM
set_option linter.unusedVariables false
set_option linter.unusedSimpArgs false
set_option maxRecDepth 20000

/-- A pointer to no disk, or to one without a capacity. -/
def Nd (w : World) (P : Option Addr) : Prop := P = none ∨ ∃ p, P = some ⟨p, 0, none⟩ ∧ w.cell? ⟨p, 0, none⟩ = some (.int .i64 0)
theorem Nd.below {w w' : World} {P : Option Addr} (h : Nd w P) (hb : Below w.heap.size w w') : Nd w' P := by
  rcases h with rfl | ⟨p, rfl, c⟩
  · exact .inl rfl
  · exact .inr ⟨p, rfl, (hb.cell (World.block_lt_of_cell? w _ c)).trans c⟩
section
variable {w : World} {P : Option Addr}
theorem none_no (h : Nd w P) : Calls Try.prog 38 #[.pointer P] w fun e w' => e = .returned (.bool true) ∧ w' = w := by
  rcases h with rfl | ⟨p, rfl, c⟩
  · go_enter Try.func38, Try.ntmps38
    go_wp2
    go_ret
    exact ⟨rfl, rfl⟩
  · go_enter Try.func38, Try.ntmps38
    go_wp2
    go_ret
    exact ⟨rfl, rfl⟩
theorem find_no (h : Nd w P) (s : ByteArray) (may : Bool) :
    Calls Try.prog 52 #[.pointer P, .string s, .bool may] w fun e w' => e = .returned (.tuple #[.pointer none, .int .i64 1]) ∧ w' = w := by
  have hn := none_no h
  clear h
  go_enter Try.func52, Try.ntmps52
  go_wp2_with fail
  refine hn.mono ?_
  rintro e w1 ⟨rfl, rfl⟩
  clear hn
  go_wp2
  go_ret2
  exact ⟨rfl, rfl⟩
theorem dead_no (h : Nd w P) : Calls Try.prog 21 #[.pointer P] w fun e w' => e = .returned (.bool false) ∧ w' = w := by
  have hn := none_no h
  clear h
  go_enter Try.func21, Try.ntmps21
  go_wp2_with fail
  refine hn.mono ?_
  rintro e w1 ⟨rfl, rfl⟩
  clear hn
  go_wp2
  go_ret
  exact ⟨rfl, rfl⟩
theorem writes_no (h : Nd w P) : Calls Try.prog 22 #[.pointer P] w fun e w' => e = .returned (.int .i64 0) ∧ w' = w := by
  have hn := none_no h
  clear h
  go_enter Try.func22, Try.ntmps22
  go_wp2_with fail
  refine hn.mono ?_
  rintro e w1 ⟨rfl, rfl⟩
  clear hn
  go_wp2
  go_ret
  exact ⟨rfl, rfl⟩
theorem room_no (h : Nd w P) : Calls Try.prog 28 #[.pointer P] w fun e w' => e = .returned (.int .i64 0) ∧ w' = w := by
  have hn := none_no h
  clear h
  go_enter Try.func28, Try.ntmps28
  go_wp2_with fail
  refine hn.mono ?_
  rintro e w1 ⟨rfl, rfl⟩
  clear hn
  go_wp2
  go_ret
  exact ⟨rfl, rfl⟩
theorem copy_no (h : Nd w P) : Calls Try.prog 12 #[.pointer P] w fun e w' => e = .returned (.pointer none) ∧ w' = w := by
  have hn := none_no h
  clear h
  go_enter Try.func12, Try.ntmps12
  go_wp2_with fail
  refine hn.mono ?_
  rintro e w1 ⟨rfl, rfl⟩
  clear hn
  go_wp2
  go_ret
  exact ⟨rfl, rfl⟩
theorem read_no (h : Nd w P) (s : ByteArray) : Calls Try.prog 24 #[.pointer P, .string s] w fun e w' => e = .returned (.tuple #[.slice none 0 0, .int .i64 1]) ∧ w' = w := by
  have hfi := find_no h s true
  clear h
  go_enter Try.func24, Try.ntmps24
  go_wp2_with fail
  refine hfi.mono ?_
  rintro e w1 ⟨rfl, rfl⟩
  clear hfi
  go_wp2
  go_ret2
  exact ⟨rfl, rfl⟩
theorem lasts_no (h : Nd w P) (s : ByteArray) : Calls Try.prog 25 #[.pointer P, .string s] w fun e w' => e = .returned (.tuple #[.int .i64 0, .int .i64 1]) ∧ w' = w := by
  have hfi := find_no h s true
  clear h
  go_enter Try.func25, Try.ntmps25
  go_wp2_with fail
  refine hfi.mono ?_
  rintro e w1 ⟨rfl, rfl⟩
  clear hfi
  go_wp2
  go_ret2
  exact ⟨rfl, rfl⟩
theorem sync_no (h : Nd w P) (s : ByteArray) : Calls Try.prog 32 #[.pointer P, .string s] w fun e w' => e = .returned (.int .i64 1) ∧ Below w.heap.size w w' := by
  have hb0 : Below w.heap.size w w := (Below.refl _ _)
  have hfi := find_no (h.below hb0) s true
  have HB0 := Lib.hid hb0
  clear h hb0
  go_enter Try.func32, Try.ntmps32
  go_wp2_with fail
  refine hfi.mono ?_
  rintro e w1 ⟨rfl, rfl⟩
  clear hfi
  go_wp2
  go_ret
  exact ⟨rfl, HB0.out.alloc HB0.out.size _⟩
theorem remove_no (h : Nd w P) (s : ByteArray) : Calls Try.prog 40 #[.pointer P, .string s] w fun e w' => e = .returned (.int .i64 1) ∧ Below w.heap.size w w' := by
  have hb0 : Below w.heap.size w ((w.alloc (.cells #[.pointer P] 23)).alloc (.cells #[.string s] 9)) := (((Below.refl _ _).alloc (Nat.le_refl _) _).alloc (by simp) _)
  have hfi := find_no (h.below hb0) s true
  have HB0 := Lib.hid hb0
  clear h hb0
  go_enter Try.func40, Try.ntmps40
  go_wp2_with fail
  refine hfi.mono ?_
  rintro e w1 ⟨rfl, rfl⟩
  clear hfi
  go_wp2
  go_ret
  exact ⟨rfl, HB0.out⟩
theorem cut_no (h : Nd w P) (s : ByteArray) (n : Int) : Calls Try.prog 34 #[.pointer P, .string s, .int .i64 n] w fun e w' => e = .returned (.int .i64 1) ∧ Below w.heap.size w w' := by
  have hb0 : Below w.heap.size w (w.alloc (.cells #[.int .i64 n] 3)) := (Below.refl _ _).alloc (Nat.le_refl _) _
  have hB1 := Blk.new w 3 #[.int .i64 n]
  obtain ⟨q, hq⟩ : ∃ q : Bool, q = decide (0 ≤ n) := ⟨_, rfl⟩
  have hnd : decide (0 ≤ n) = q := hq.symm
  have hfi := find_no (h.below hb0) s q
  have HB0 := Lib.hid hb0
  clear h hb0 hq hB1
  go_enter Try.func34, Try.ntmps34
  go_wp2_with fail
  refine hfi.mono ?_
  rintro e w1 ⟨rfl, rfl⟩
  clear hfi
  go_wp2
  go_ret
  exact ⟨rfl, HB0.out.alloc HB0.out.size _⟩
theorem append_no (h : Nd w P) (s : ByteArray) (A : Option Addr) (n c : Nat) : Calls Try.prog 26 #[.pointer P, .string s, .slice A n c] w fun e w' => e = .returned (.int .i64 1) ∧ Below w.heap.size w w' := by
  have hb0 : Below w.heap.size w (((w.alloc (.cells #[.pointer P] 23)).alloc (.cells #[.string s] 9)).alloc (.cells #[.slice A n c] 38)) := ((((Below.refl _ _).alloc (Nat.le_refl _) _).alloc (by simp) _).alloc (by simp; omega) _)
  have hfi := find_no (h.below hb0) s true
  have HB0 := Lib.hid hb0
  clear h hb0
  go_enter Try.func26, Try.ntmps26
  go_wp2_with fail
  refine hfi.mono ?_
  rintro e w1 ⟨rfl, rfl⟩
  clear hfi
  go_wp2
  go_ret
  exact ⟨rfl, HB0.out.alloc HB0.out.size _⟩
theorem rename_no (h : Nd w P) (s t : ByteArray) : Calls Try.prog 27 #[.pointer P, .string s, .string t] w fun e w' => e = .returned (.int .i64 1) ∧ Below w.heap.size w w' :=
  ren_mid P s t none 1 (.inr (.inr (.inr rfl))) (fun X hX => (find_no (h.below hX) s _).mono (by rintro e w1 ⟨rfl, rfl⟩; exact ⟨rfl, Below.refl _ _⟩)) _ (fun _ X hb => ⟨rfl, hb⟩) (fun e => absurd e (by decide))
theorem fuse_no (h : Nd w P) (n : Int) : Calls Try.prog 33 #[.pointer P, .int .i64 n] w fun e w' => e = .returned (.tuple #[]) ∧ w' = w := by
  have hn := none_no h
  clear h
  go_enter Try.func33, Try.ntmps33
  go_wp2_with fail
  refine hn.mono ?_
  rintro e w1 ⟨rfl, rfl⟩
  clear hn
  go_wp2
  refine bodyPost_ret (results_none rfl _ _ _) rfl ?_
  exact ⟨rfl, rfl⟩
end
end Go.Proofs.Ytdbkhigocjmfoaa

/-
  Two files' likeness.
-/
namespace Go.Proofs.Ytdbkhigocjmfoaa
open Go.RowKit Go.Maps
open DskM
set_option linter.unusedVariables false
set_option linter.unusedSimpArgs false
set_option maxRecDepth 20000

section
variable {w : World}
theorem bytesEq_any (a b : Value) (la lb : List UInt8) (ha : Sl w a la) (hb : Sl w b lb) :
    Calls Try.prog 64 #[a, b] w fun e w' => e = .returned (.bool (la == lb)) ∧ w' = w := by
  have k1 := ha.conv (P := Try.prog) (src := 38) (dst := 9) (e := 5) Try.underlying38 Try.underlying5 Try.underlying9
  have k2 := hb.conv (P := Try.prog) (src := 38) (dst := 9) (e := 5) Try.underlying38 Try.underlying5 Try.underlying9
  have hq : ((ByteArray.mk la.toArray).toList == (ByteArray.mk lb.toArray).toList) = (la == lb) := by
    rw [ByteArray.toList_eq, ByteArray.toList_eq]
  clear ha hb
  go_enter Try.func64, Try.ntmps64
  go_wp2
  go_ret
  exact ⟨by first | rfl | (rw [hq]) | (simp only [hq]), rfl⟩
/-- Are two files alike? -/
theorem fileSame_nil (g : Nat) : Calls Try.prog 48 #[.pointer (some ⟨g, 0, none⟩), .pointer none] w fun e w' => e = .returned (.bool false) ∧ Below w.heap.size w w' := by
  go_enter Try.func48, Try.ntmps48
  go_wp2_with fail
  go_quiet (fail)
  have hb := below_drewN (Below.refl w.heap.size w) nq
  go_wp2
  go_ret
  exact ⟨rfl, hb⟩
theorem fileSame_any (f k : Fo) (hf : FoAt w f) (hk : FoAt w k) : Calls Try.prog 48 #[.pointer (some ⟨f.g, 0, none⟩), .pointer (some ⟨k.g, 0, none⟩)] w fun e w' => e = .returned (.bool (f.la == k.la && f.bs == k.bs)) ∧ Below w.heap.size w w' := by
  have a0 := hf.c0
  have a1 := hf.c1
  have b0 := hk.c0
  have b1 := hk.c1
  have hs1 := hf.row.sl
  have hs2 := hk.row.sl
  by_cases he : f.la = k.la
  · have t1 : (((f.la : Nat) : Int) == ((k.la : Nat) : Int)) = true := by rw [beq_iff_eq]; omega
    have t2 : (f.la == k.la) = true := by rw [beq_iff_eq]; exact he
    have hq : ∀ n, Calls Try.prog 64 #[f.v, k.v] (w.drewN n) fun e w' => e = .returned (.bool (f.bs == k.bs)) ∧ w' = w.drewN n := fun n => bytesEq_any _ _ _ _ (hs1.keep fun p u hu => hu) (hs2.keep fun p u hu => hu)
    rw [t2, Bool.true_and]
    have HE := Lib.hid he
    clear he t2 hf hk hs1 hs2
    go_enter Try.func48, Try.ntmps48
    go_wp2_with fail
    go_quiet ((go_at_call 64; exact Calls.quiet_of_same (hq _)))
    have hb := below_drewN (Below.refl w.heap.size w) nq
    go_wp2
    go_ret
    exact ⟨rfl, hb⟩
  · have t1 : (((f.la : Nat) : Int) == ((k.la : Nat) : Int)) = false := by rw [beq_eq_false_iff_ne]; omega
    have t2 : (f.la == k.la) = false := by rw [beq_eq_false_iff_ne]; exact he
    rw [t2, Bool.false_and]
    have HE := Lib.hid he
    clear he t2 hf hk hs1 hs2
    go_enter Try.func48, Try.ntmps48
    go_wp2_with fail
    go_quiet (fail)
    have hb := below_drewN (Below.refl w.heap.size w) nq
    go_wp2
    go_ret
    exact ⟨rfl, hb⟩
end
end Go.Proofs.Ytdbkhigocjmfoaa

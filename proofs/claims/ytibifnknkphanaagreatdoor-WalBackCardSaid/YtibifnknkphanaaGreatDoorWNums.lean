/-
  numbers: those of the segments that are there, rising.
-/
import Derived.Test.YtibifnknkphanaaGreatDoorWTakeA
import Derived.Test.YtibifnknkphanaaGreatDoorDskCrM
import Derived.Sort.OwnSortedInts
import Derived.BigQuiet
import Derived.Laws.EntriesVeiled
namespace Go.Proofs.YtibifnknkphanaaGreatDoor
open Go.RowKit Go.Maps Go.Sort
open DskM WalM
set_option linter.unusedVariables false
set_option linter.unusedSimpArgs false
set_option maxRecDepth 100000
attribute [local go_sem] Oper.semAt_some

theorem sort_nums {w : World} {B : Nat} {v : Value} {l : List Nat} (h : OwnI w B v l) (hl : l.length ≤ 1000000) :
    Calls Tryz.prog 132 #[v] w fun e w' => e = .returned (.tuple #[]) ∧ OwnI w' B v (sortN l) ∧ w.grownBy w' v.ownBlock := by
  rcases h.2 with ⟨rfl, h0⟩ | ⟨g, cap, cur, rfl, hg, hh, h1, h2, h3, h4⟩
  · have h9 : l = [] := List.eq_nil_of_length_eq_zero h0
    subst h9
    refine (Tryz.slices_Sort_int_none none 0 w).mono ?_
    rintro e w' ⟨rfl, rfl⟩
    exact ⟨rfl, OwnI.nil, ⟨rfl, rfl, rfl, Nat.le_refl _, fun _ _ _ => rfl⟩⟩
  · have hm : l.map iv = (l.map fun n : Nat => (n : Int)).map (Value.int .i64) := by rw [List.map_map]; rfl
    have hH := holds_of_blockI (ss := l.map fun n : Nat => (n : Int)) hh (by rw [List.length_map, ← hm, ← h4, Nat.mul_one])
    have hlt : g < w.heap.size := Blk.lt (cs := cur) hh
    have hc := Tryz.slices_Sort_int g 0 cap (l.map fun n : Nat => (n : Int)) w hH hlt (by rw [List.length_map]; omega)
    rw [List.length_map] at hc
    refine hc.mono ?_
    rintro e w' ⟨rfl, n, os, rfl⟩
    rw [merge_sortN]
    refine ⟨rfl, ?_, grownBy_sortedI _⟩
    have h5 := ownsRow_sortedI (n := n) (os := os) (ss := l.map fun n : Nat => (n : Int)) (ts := (sortN l).map fun n : Nat => (n : Int)) (by simp [sortN_length]) hg hh (by simpa using h1) h2 h3
    unfold OwnI
    rw [sortN_length]
    rw [List.length_map, List.map_map] at h5
    exact h5
theorem segments_any (g : Nat) (s : ByteArray) (hsz : s.size ≤ 1000000) (w : World) (hc : w.cell? ⟨g, 1, none⟩ = some (.string s)) :
    Calls Tryz.prog 131 #[.pointer (some ⟨g, 0, none⟩)] w fun e w' => e = .returned (.func (.func 143) #[] #[.pointer (some ⟨w.heap.size + 1, 0, none⟩), .pointer (some ⟨w.heap.size, 0, none⟩)]) ∧ Blk w' w.heap.size 40 #[.pointer (some ⟨g, 0, none⟩)] ∧ Blk w' (w.heap.size + 1) 9 #[.string (s ++ ⟨#[46]⟩)] ∧ Below w.heap.size w w' := by
  have hmf : ∀ (fn : Fn) (first cap : Array Value) (w : World), (Instr.makeFunc fn first cap).run Tryz.prog w = .ok (.func fn first cap) w := fun _ _ _ _ => rfl
  have n1 : ¬ (9223372036854775807 < s.size + 1) := by omega
  have c1 : (w.alloc (.cells #[.pointer (some ⟨g, 0, none⟩)] 40)).cell? ⟨g, 1, none⟩ = some (.string s) := ((al_one w _).cell (World.block_lt_of_cell? w _ hc)).trans hc
  have c0 : (w.alloc (.cells #[.pointer (some ⟨g, 0, none⟩)] 40)).cell? ⟨w.heap.size, 0, none⟩ = some (.pointer (some ⟨g, 0, none⟩)) := by rw [(Blk.new w _ _).cell]; rfl
  have k0 : Blk ((w.alloc (.cells #[.pointer (some ⟨g, 0, none⟩)] 40)).alloc (.cells #[.string (s ++ ⟨#[46]⟩)] 9)) w.heap.size 40 #[.pointer (some ⟨g, 0, none⟩)] := (Blk.new w _ _).alloc _
  have k1 : Blk ((w.alloc (.cells #[.pointer (some ⟨g, 0, none⟩)] 40)).alloc (.cells #[.string (s ++ ⟨#[46]⟩)] 9)) (w.heap.size + 1) 9 #[.string (s ++ ⟨#[46]⟩)] := by
    have := Blk.new (w.alloc (.cells #[.pointer (some ⟨g, 0, none⟩)] 40)) 9 #[.string (s ++ ⟨#[46]⟩)]
    rw [World.size_alloc] at this
    exact this
  have HE := Lib.hid (And.intro k0 (And.intro k1 (((Below.refl _ w).alloc (Nat.le_refl _) (.cells #[.pointer (some ⟨g, 0, none⟩)] 40)).alloc (by simp) (.cells #[.string (s ++ ⟨#[46]⟩)] 9))))
  clear k0 k1 hc
  go_enter Tryz.func131, Tryz.ntmps131
  go_wp2
  go_ret
  exact ⟨rfl, HE.out⟩
/-- What the loop of numbers has gathered. -/
def numsE {L : List Fo} (nm : Nm) (pre : List (EntL L)) : List Nat := (pre.map fun x => numP nm x.1.1).filter fun n => decide (1 ≤ n)
theorem numsE_snoc {L : List Fo} (nm : Nm) (pre : List (EntL L)) (x : EntL L) : numsE nm (pre ++ [x]) = numsE nm pre ++ (if 1 ≤ numP nm x.1.1 then [numP nm x.1.1] else []) := by
  unfold numsE
  rw [List.map_append, List.filter_append]
  congr 1
  by_cases h : 1 ≤ numP nm x.1.1 <;> simp [h]
theorem numsE_all {L : List Fo} (nm : Nm) : numsE nm (((L.map Fo.nm).zip (L.map fun f => f.bs.length)).attach : List (EntL L)) = numsF nm (plain L) := by
  unfold numsE numsF
  congr 1
  have e : (((L.map Fo.nm).zip (L.map fun f => f.bs.length)).attach : List (EntL L)).map (fun x => numP nm x.1.1) = ((L.map Fo.nm).zip (L.map fun f => f.bs.length)).map (fun x => numP nm x.1) := by
    conv => rhs; rw [← List.attach_map_subtype_val ((L.map Fo.nm).zip (L.map fun f => f.bs.length)), List.map_map]
    rfl
  rw [e, zip_L, List.map_map]
  unfold plain
  rw [List.map_map]
  rfl
def NuI {L : List Fo} (w0 : World) (nm : Nm) (hi q c1 c2 : Nat) (s : ByteArray) (g : Nat) (pre : List (EntL L)) (W : World) : Prop :=
  Below w0.heap.size w0 W ∧ hi ≤ W.heap.size ∧ (∃ v, Blk W w0.heap.size 35 #[v] ∧ OwnI W hi v (numsE nm pre)) ∧ Blk W q 118 #[.func (.func 143) #[] #[.pointer (some ⟨c1, 0, none⟩), .pointer (some ⟨c2, 0, none⟩)]] ∧
    Blk W c1 9 #[.string (s ++ ⟨#[46]⟩)] ∧ Blk W c2 40 #[.pointer (some ⟨g, 0, none⟩)]
theorem NuI.own {L : List Fo} {w0 : World} {nm : Nm} {hi q c1 c2 : Nat} {s : ByteArray} {g : Nat} (h0 : w0.heap.size ≤ hi) : OwnFrom hi (NuI (L := L) w0 nm hi q c1 c2 s g) := by
  rintro pre X Y row ⟨hb, hz, ⟨v, b1, ho⟩, b2, b3, b4⟩ hg hr
  refine ⟨hb.grown hg hb.size (fun k e => by have := (hr k e).1; omega), Nat.le_trans hz hg.size, ⟨v, b1.own hg (fun r e => hr r e), ho.keep (fun k hk => ?_)⟩, b2.own hg (fun r e => hr r e), b3.own hg (fun r e => hr r e), b4.own hg (fun r e => hr r e)⟩
  obtain ⟨cs, hcs⟩ := ho.isRow hk
  have := hcs.own hg (fun r e => hr r e)
  unfold Blk at this hcs
  rw [this, hcs]
set_option maxHeartbeats 8000000 in
theorem numbers_any {D T : Nat → Prop} {w : World} {g p : Nat} {s : ByteArray} {most : Int} {S : Ds} {F : List Fp} {L : Lg} (h : LW D T w g p s most S F L) (hsz : s.size ≤ 1000000) :
    Calls Tryz.prog 103 #[.pointer (some ⟨g, 0, none⟩)] w fun e w' => ∃ v, e = .returned v ∧ OwnI w' w.heap.size v (numsP s.data.toList F) ∧ Below w.heap.size w w' := by
  obtain ⟨i0, hi, hy0, hy1, hy2⟩ := info_parts info_int
  obtain ⟨m, Lf, hF, hd, hf⟩ := h.disk
  obtain ⟨vs0, vr0, hbg, _⟩ := h.log
  have q1 : w.cell? ⟨g, 1, none⟩ = some (.string s) := by rw [hbg.cell]; rfl
  have q0 : w.cell? ⟨g, 0, none⟩ = some (.pointer (some ⟨p, 0, none⟩)) := by rw [hbg.cell]; rfl
  obtain ⟨w1, hw1⟩ : ∃ w1, w1 = w.alloc (.cells #[.slice none 0 0] 35) := ⟨_, rfl⟩
  have hb1 : Below w.heap.size w w1 := by rw [hw1]; exact al_one w _
  have k0 : Blk w1 w.heap.size 35 #[.slice none 0 0] := by rw [hw1]; exact Blk.new w _ _
  have hz1 : w1.heap.size = w.heap.size + 1 := by rw [hw1]; simp
  have hsg := segments_any g s hsz w1 ((hb1.cell (World.block_lt_of_cell? w _ q1)).trans q1)
  have HSG := Lib.hid hsg
  have HW1 := Lib.hid hw1
  have HK := Lib.hid (And.intro hb1 (And.intro k0 hz1))
  have HD := Lib.hid hd
  have HG := Lib.hid (And.intro q0 q1)
  have HLD := Lib.hid h.ld
  clear hsg hw1 hb1 k0 hz1 hd q0 q1 hbg hf h
  refine (callsIn_wide (n := 8)).1 ?_
  refine callsIn_of_wp_marks Tryz.func103 rfl trivial ?_ rfl
  simp only [Tryz.ntmps103, List.size_toArray, List.length_cons, List.length_nil, Nat.reduceAdd, Nat.reduceSub, Array.replicate_succ, Array.replicate_zero, List.push_toArray, List.append_toArray, List.nil_append, List.cons_append]
  gi_wp2_with fail
  rw [← HW1.out]
  refine ⟨trivial, (callsIn_wide.2 HSG.out).mono ?_⟩
  rintro e w2 ⟨rfl, k2, k1, hb2⟩
  obtain ⟨w3, hw3⟩ : ∃ w3, w3 = w2.alloc (.cells #[.func (.func 143) #[] #[.pointer (some ⟨w1.heap.size + 1, 0, none⟩), .pointer (some ⟨w1.heap.size, 0, none⟩)]] 118) := ⟨_, rfl⟩
  have hb3 : Below w2.heap.size w2 w3 := by rw [hw3]; exact al_one w2 _
  have k3 : Blk w3 w2.heap.size 118 #[.func (.func 143) #[] #[.pointer (some ⟨w1.heap.size + 1, 0, none⟩), .pointer (some ⟨w1.heap.size, 0, none⟩)]] := by rw [hw3]; exact Blk.new w2 _ _
  have hb03 : Below w.heap.size w w3 := HK.out.1.trans ((hb2.trans (hb3.mono hb2.size)).mono HK.out.1.size)
  have c0 : w3.cell? ⟨g, 0, none⟩ = some (.pointer (some ⟨p, 0, none⟩)) := (hb03.cell (World.block_lt_of_cell? w _ HG.out.1)).trans HG.out.1
  have hfi := files_any (HD.out.below hb03)
  have HX := Lib.hid (And.intro (k2.below hb3 k2.lt) (And.intro (k1.below hb3 k1.lt) (And.intro k3 (And.intro hb03 (HK.out.2.1.below (hb2.trans (hb3.mono hb2.size)) HK.out.2.1.lt)))))
  have HFI := Lib.hid hfi
  have HW3 := Lib.hid hw3
  have HZ := Lib.hid (show w.heap.size < w1.heap.size ∧ w1.heap.size + 1 < w2.heap.size ∧ w2.heap.size < w3.heap.size from ⟨by rw [HK.out.2.2]; omega, k1.lt, k3.lt⟩)
  rw [hw3] at c0
  clear k1 k2 hb2 hw3 hb3 k3 hb03 hfi HSG
  gi_wp2_with fail
  try rw [← HW3.out]
  refine ⟨trivial, (callsIn_wide.2 HFI.out).mono ?_⟩
  rintro e w4 ⟨rfl, hnt, hb4⟩
  have hni := hnt.at (Nat.le_refl _) (Nat.le_succ _)
  have hst := each_stops Fence.wide 7 trivial rfl (by omega) w3.heap.size (w3.heap.size + 1) w3.heap.size w4.heap.size (Lf.map Fo.nm) (Lf.map fun f => f.bs.length) (by simp) (by simp; exact HD.out.few) w4 (Nat.le_refl _) hni
  have HST := Lib.hid hst
  have hi0 : NuI (L := Lf) w s.data.toList w4.heap.size w2.heap.size (w1.heap.size + 1) w1.heap.size s g [] w4 := by
    obtain ⟨k2, k1, k3, hb03, k0⟩ := HX.out
    exact ⟨hb03.trans (hb4.mono hb03.size), Nat.le_refl _, ⟨_, k0.below hb4 k0.lt, OwnI.nil⟩, k3.below hb4 k3.lt, k1.below hb4 k1.lt, k2.below hb4 k2.lt⟩
  have HI0 := Lib.hid hi0
  have HZ4 := Lib.hid (show w3.heap.size ≤ w4.heap.size from hb4.size)
  clear hnt hni hst hi0 hb4 HFI c0
  gi_wp2_with fail
  refine' wpIn_rangeFunc_ownG rfl (by omega) (gf := 89) (lb := #[.pointer (some ⟨w3.heap.size, 0, none⟩), .pointer (some ⟨w3.heap.size + 1, 0, none⟩)]) rfl trivial (enters_of Tryz.func89 (by kernel_rfl) rfl)
    HST.out (fun {A B C} h k => Mid.trans h k) (Mid.putObj (Nat.le_refl _)) (Below.refl _ _) (fun _ => rfl)
    (NuI (L := Lf) w s.data.toList w4.heap.size w2.heap.size (w1.heap.size + 1) w1.heap.size s g) (fun _ _ _ => False) (NuI.own (by have := HZ.out; have := HZ4.out; omega)) (fun _ _ _ _ _ hs _ _ => hs) HI0.out _ ?assign ?body ?done ?stop
  case assign =>
    intro l x W K hK
    dsimp only [encE]
    gi_wp2
    exact hK
  case stop =>
    intro D c pre W hD' _ h _
    exact h.elim
  case body =>
    intro l pre x W hI hlen
    obtain ⟨hb, hs, ⟨v, b1, ho⟩, b2, b3, b4⟩ := hI
    obtain ⟨f, hff, hx⟩ := ent_is x
    have hx1 : x.1.1 = f.nm := by rw [hx]
    obtain ⟨fs, hfs⟩ : ∃ fs : ByteArray, fs = ⟨x.1.1.toArray⟩ := ⟨_, rfl⟩
    have hfl : fs.data.toList = x.1.1 := by rw [hfs]
    have hfz : fs.size ≤ 1000000 := by
      have h1 := (HD.out.file f hff).may
      rw [← hx1, ← hfl] at h1
      have := may_size h1; omega
    have hcs := seg1_any s fs (w1.heap.size + 1) w1.heap.size g hsz hfz W (by rw [b3.cell]; rfl) (by rw [b4.cell]; rfl) ((hb.cell (World.block_lt_of_cell? w _ HG.out.2)).trans HG.out.2) (HLD.out.below hb)
    rw [hfl] at hcs
    have r2 : W.cell? ⟨w2.heap.size, 0, none⟩ = some (.func (.func 143) #[] #[.pointer (some ⟨w1.heap.size + 1, 0, none⟩), .pointer (some ⟨w1.heap.size, 0, none⟩)]) := by rw [b2.cell]; rfl
    rw [← hfs]
    have hsn := numsE_snoc s.data.toList pre x
    have hpl : pre.length < 64 := by have := HD.out.few; simp at hlen; omega
    have hnl : (numsE s.data.toList pre).length ≤ 64 := by
      unfold numsE
      exact Nat.le_trans (List.length_filter_le _ _) (by simp; omega)
    generalize numP s.data.toList x.1.1 = N at hcs hsn
    obtain ⟨A1, cc, hvv⟩ := ho.shape
    subst hvv
    have HI := Lib.hid (And.intro hb (And.intro hs (And.intro b1 (And.intro ho (And.intro b2 (And.intro b3 b4))))))
    have HCS := Lib.hid hcs
    have HSN := Lib.hid hsn
    have HNL := Lib.hid hnl
    clear hb hs b1 ho b2 b3 b4 hcs hsn hfl hfs hx hx1 hfz hnl hpl hlen
    gi_wp2_with fail
    refine ⟨trivial, (callsIn_wide.2 HCS.out).mono ?_⟩
    rintro e W2 ⟨k, rfl, hk, hbW⟩
    obtain ⟨hb, hs, b1, ho, b2, b3, b4⟩ := HI.out
    have hmid : Mid w3.heap.size w4.heap.size W W2 := Mid.of_keep (Keep.of_below (S := fun _ => False) hbW) hs (fun _ _ _ h => h)
    have hkf : KeepsFrom w4.heap.size W W2 := ⟨hbW.size, fun i o hi' ho' hc => (hbW.block i (Array.getElem?_eq_some_iff.1 ho').1).trans ho'⟩
    have ho2 : OwnI W2 w4.heap.size (.slice A1 (numsE s.data.toList pre).length cc) (numsE s.data.toList pre) := ho.keep (fun k hk => hbW.block k (ho.lt k hk).2)
    by_cases h1 : 1 ≤ N
    · have hd1 : decide (1 ≤ N) = true := decide_eq_true h1
      have hk' := hk h1
      subst hk'
      rw [if_pos h1] at HSN
      obtain ⟨W3, hW3⟩ : ∃ W3, W3 = W2.alloc (.cells #[iv N] 3) := ⟨_, rfl⟩
      have hb23 : Below W2.heap.size W2 W3 := by rw [hW3]; exact al_one W2 _
      have t1 : W2.cell? ⟨w.heap.size, 0, none⟩ = some (.slice A1 (numsE s.data.toList pre).length cc) := by rw [(b1.below hbW b1.lt).cell]; rfl
      have ho3 : W3.ownsRow w4.heap.size 3 1 (.slice A1 (numsE s.data.toList pre).length cc) (numsE s.data.toList pre).length ((numsE s.data.toList pre).map iv) := ho2.keep (fun k hk => hb23.block k (ho2.lt k hk).2)
      have hcel : ∀ (j : Nat) (u : Value), [iv N][j]? = some u → W3.cell? ((⟨W2.heap.size, 0, none⟩ : Addr).add j) = some u := by
        intro j u hu
        have hj : j = 0 := by
          have := (List.getElem?_eq_some_iff.1 hu).1
          simpa using this
        subst hj
        rw [hW3, add_plain, (Blk.new W2 _ _).cell]
        simpa using hu
      have hone : ∀ u ∈ [iv N], u.oneCell' = true := by
        intro u hu
        obtain rfl := List.mem_singleton.1 hu
        rfl
      have hmx : (numsE s.data.toList pre).length + 1 ≤ maxLen := by have := HNL.out; unfold maxLen; omega
      have hby : ((numsE s.data.toList pre).length + 1) * 8 ≤ 140737488355328 := by have := HNL.out; omega
      have hbs : w4.heap.size ≤ W3.heap.size := Nat.le_trans (Nat.le_trans hs hbW.size) hb23.size
      have HA := Lib.hid (And.intro ho3 (And.intro hcel (And.intro hone (And.intro hmx (And.intro hby hbs)))))
      have HW3' := Lib.hid (show W3 = W2.alloc (.cells #[.int .i64 (N : Int)] 3) from hW3)
      have HB := Lib.hid (And.intro hbW (And.intro hb23 (And.intro ho2 (And.intro hmid hkf))))
      clear hbW hb23 ho2 hmid hkf hb hs b1 ho b2 b3 b4 hW3 ho3 hcel hone hmx hby hbs hk h1 HCS
      gi_wp2_with (gi_at_builtin; rw [← HW3'.out]; go_loud (refine wpListIn_append_own_at _ rfl _ _ 35 rfl w4.heap.size 3 i0 (.int .i64 0) 1 8 Tryz.underlying35 hi hy0 hy1 hy2 rfl (by decide) (.slice A1 (numsE s.data.toList pre).length cc) (numsE s.data.toList pre).length ((numsE s.data.toList pre).map iv) rfl HA.out.1 ⟨W2.heap.size, 0, none⟩ 1 1 [iv N] rfl rfl HA.out.2.1 HA.out.2.2.1 HA.out.2.2.2.1 HA.out.2.2.2.2.1 HA.out.2.2.2.2.2 ?_))
      intro v' W4 ho4 hg4 _ hat
      obtain ⟨hb, hs, b1, ho, b2, b3, b4⟩ := HI.out
      obtain ⟨hbW, hb23, ho2, hmid, hkf⟩ := HB.out
      obtain ⟨ob, hob⟩ : ∃ ob, ob = (Value.slice A1 (numsE s.data.toList pre).length cc).ownBlock := ⟨_, rfl⟩
      have hrow : ∀ k, ob = some k → w4.heap.size ≤ k ∧ ∃ cs, Blk W3 k 3 cs := fun k e => by
        rcases HA.out.1.2 with ⟨e2, _⟩ | ⟨g, cap, cur, e2, hg, hh, _⟩
        · rw [hob, e2] at e; cases e
        · rw [hob, e2] at e
          injection e with e
          subst e
          exact ⟨hg, cur, hh⟩
      rw [← hob] at hg4
      have hz4 := HZ4.out
      have hz := HZ.out
      have k1 : Keep (fun i => ob = some i) W W4 := (Keep.of_below (hbW.trans (hb23.mono hbW.size))).trans (Keep.of_grown hg4 (fun k e => e)) (fun _ h => h) (fun _ _ h => h)
      have b1' := b1.kept k1 (fun e => by have := (hrow _ e).1; omega)
      have t1' : W4.cell? ⟨w.heap.size, 0, none⟩ = some (.slice A1 (numsE s.data.toList pre).length cc) := by rw [b1'.cell]; rfl
      have g1 := b1'.frozen 0
      obtain ⟨A', c', hv'⟩ := row_shape ho4
      subst hv'
      have k2 : Keep (fun i => i = w.heap.size ∨ ob = some i) W (W4.setCell ⟨w.heap.size, 0, none⟩ (.slice A' ((numsE s.data.toList pre).length + 1) c')) := (k1.mono (fun i h => .inr h)).trans (Keep.setCell W4 _ _ (.inl rfl)) (fun _ h => h) (fun _ _ h => h)
      have hfin : KeepsFrom w4.heap.size W (W4.setCell ⟨w.heap.size, 0, none⟩ (.slice A' ((numsE s.data.toList pre).length + 1) c')) ∧ Mid w3.heap.size w4.heap.size W (W4.setCell ⟨w.heap.size, 0, none⟩ (.slice A' ((numsE s.data.toList pre).length + 1) c')) ∧ NuI (L := Lf) w s.data.toList w4.heap.size w2.heap.size (w1.heap.size + 1) w1.heap.size s g (pre ++ [x]) (W4.setCell ⟨w.heap.size, 0, none⟩ (.slice A' ((numsE s.data.toList pre).length + 1) c')) := by
        refine ⟨⟨k2.size, fun i o hi' ho' hc => (k2.block i (Array.getElem?_eq_some_iff.1 ho').1 (fun e => ?_)).trans ho'⟩, Mid.of_keep k2 hs (fun k h1 h2 e => ?_), Keep.below hb k2 hb.size (fun i e => ?_), Nat.le_trans hs k2.size, ⟨_, b1'.set_ 0 _, ?_⟩, b2.kept k2 (fun e => ?_), b3.kept k2 (fun e => ?_), b4.kept k2 (fun e => ?_)⟩
        · rcases e with e | e
          · omega
          · obtain ⟨_, cs', hk'⟩ := hrow _ e
            have hlt := (Array.getElem?_eq_some_iff.1 ho').1
            have hk2 := (hbW.trans (hb23.mono hbW.size)).block i hlt
            unfold Blk at hk'
            rw [hk2, ho'] at hk'
            injection hk' with hk'
            rw [hk'] at hc
            cases hc
        · rcases e with e | e
          · omega
          · have := (hrow _ e).1; omega
        · rcases e with e | e
          · omega
          · have := (hrow _ e).1; omega
        · rw [HSN.out]
          have h6 : OwnI W4 w4.heap.size (.slice A' ((numsE s.data.toList pre).length + 1) c') (numsE s.data.toList pre ++ [N]) := by
            unfold OwnI
            rw [List.length_append, List.map_append]
            exact ho4
          refine h6.keep (fun k hk => Below.heap_setCell _ _ _ k (fun e => ?_))
          have := (h6.lt k hk).1
          have e : k = w.heap.size := e
          omega
        · rcases e with e | e
          · omega
          · have := (hrow _ e).1; omega
        · rcases e with e | e
          · omega
          · have := (hrow _ e).1; omega
        · rcases e with e | e
          · omega
          · have := (hrow _ e).1; omega
      have HFIN := Lib.hid hfin
      clear hfin k2 b1' k1 hrow hob hat hg4 ho4 hb hs b1 ho b2 b3 b4 hbW hb23 ho2 hmid hkf hz4 hz
      gi_wp2
      exact HFIN.out
    · have hd1 : decide (1 ≤ N) = false := decide_eq_false h1
      rw [if_neg h1, List.append_nil] at HSN
      have hfin : NuI (L := Lf) w s.data.toList w4.heap.size w2.heap.size (w1.heap.size + 1) w1.heap.size s g (pre ++ [x]) W2 :=
        ⟨hb.trans (hbW.mono hb.size), Nat.le_trans hs hbW.size, ⟨_, b1.below hbW b1.lt, by rw [HSN.out]; exact ho2⟩, b2.below hbW b2.lt, b3.below hbW b3.lt, b4.below hbW b4.lt⟩
      have HFIN := Lib.hid (And.intro hkf (And.intro hmid hfin))
      clear hfin hkf hmid ho2 hb hs b1 ho b2 b3 b4 hbW hk h1
      gi_wp2
      exact HFIN.out
  case done =>
    rintro D xs W hD' rfl hI hKd
    rw [show NuI (L := Lf) w s.data.toList w4.heap.size w2.heap.size (w1.heap.size + 1) w1.heap.size s g ((Lf.map Fo.nm).zip (Lf.map fun f => f.bs.length)).attach W = (Below w.heap.size w W ∧ w4.heap.size ≤ W.heap.size ∧ (∃ v, Blk W w.heap.size 35 #[v] ∧ OwnI W w4.heap.size v (numsF s.data.toList F)) ∧ _) from by rw [← hF, ← numsE_all]; rfl] at hI
    obtain ⟨hb, hs, ⟨v, b1, ho⟩, _⟩ := hI
    have hnl : (numsF s.data.toList F).length ≤ 64 := by
      rw [← hF, ← numsE_all]
      unfold numsE
      refine Nat.le_trans (List.length_filter_le _ _) ?_
      have := HD.out.few
      simpa using this
    obtain ⟨A1, cc, hvv⟩ := ho.shape
    subst hvv
    have hso := sort_nums ho (by omega)
    have HSO := Lib.hid hso
    have t1 : W.cell? ⟨w.heap.size, 0, none⟩ = some (.slice A1 (numsF s.data.toList F).length cc) := by rw [b1.cell]; rfl
    have HY := Lib.hid (And.intro hb (And.intro hs (And.intro b1 (And.intro ho hKd))))
    clear hso hb hs b1 ho hKd
    gi_wp2_with fail
    refine ⟨trivial, (callsIn_wide.2 HSO.out).mono ?_⟩
    rintro e W2 ⟨rfl, ho2, hg2⟩
    obtain ⟨hb, hs, b1, ho, hKd⟩ := HY.out
    obtain ⟨ob, hob⟩ : ∃ ob, ob = (Value.slice A1 (numsF s.data.toList F).length cc).ownBlock := ⟨_, rfl⟩
    have hrow : ∀ k, ob = some k → w4.heap.size ≤ k ∧ ∃ cs, Blk W k 3 cs := fun k e => ⟨(ho.lt k (by rw [← hob]; exact e)).1, ho.isRow (by rw [← hob]; exact e)⟩
    rw [← hob] at hg2
    have hz4 := HZ4.out
    have hz := HZ.out
    have k1 : Keep (fun i => ob = some i) W W2 := Keep.of_grown hg2 (fun k e => e)
    have b1' := b1.kept k1 (fun e => by have := (hrow _ e).1; omega)
    have t2 : W2.cell? ⟨w.heap.size, 0, none⟩ = some (.slice A1 (numsF s.data.toList F).length cc) := by rw [b1'.cell]; rfl
    have hD2 : W2.heap[D]? = some (.deferred (some [])) := (k1.block D (Array.getElem?_eq_some_iff.1 hKd).1 (fun e => by
      obtain ⟨_, cs', hk'⟩ := hrow _ e
      unfold Blk at hk'
      rw [hKd] at hk'
      injection hk' with hk'
      cases hk')).trans hKd
    have hb2 : Below w.heap.size w W2 := Keep.below hb k1 hb.size (fun i e => by have := (hrow _ e).1; omega)
    have hbe := hb2.grown (grownBy_putObj' W2 D (.deferred none)) hb2.size (fun k e => by injection e with e; omega)
    have hoe : OwnI (W2.putObj D (.deferred none)) w.heap.size (.slice A1 (numsF s.data.toList F).length cc) (numsP s.data.toList F) := by
      have h6 : OwnI (W2.putObj D (.deferred none)) w4.heap.size (.slice A1 (numsF s.data.toList F).length cc) (sortN (numsF s.data.toList F)) := ho2.keep (fun k hk => by
        obtain ⟨cs, hcs⟩ := ho2.isRow hk
        show (W2.heap.setIfInBounds D _)[k]? = _
        rw [Array.getElem?_setIfInBounds_ne (fun e => by
          subst e
          unfold Blk at hcs
          rw [hD2] at hcs
          injection hcs with hcs
          cases hcs)])
      refine ⟨h6.1, ?_⟩
      rcases h6.2 with h | ⟨g, cap, cur, e1, e2, r⟩
      · exact .inl h
      · exact .inr ⟨g, cap, cur, e1, by omega, r⟩
    have HE := Lib.hid (And.intro hoe hbe)
    have HD2 := Lib.hid hD2
    clear hb hs b1 ho hKd hrow hob hg2 k1 b1' hD2 hb2 hbe hoe ho2 hz4 hz HSO
    gi_wp2
    refine ⟨by simp, .inl ⟨_, _, rfl, run_takeDeferred HD2.out, ?_⟩⟩
    exact ⟨_, results_tmp rfl _ _ _, ⟨.slice A1 (numsF s.data.toList F).length cc, rfl, HE.out⟩⟩
end Go.Proofs.YtibifnknkphanaaGreatDoor

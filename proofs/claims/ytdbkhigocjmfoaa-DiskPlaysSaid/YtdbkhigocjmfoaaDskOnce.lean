/-
  The law's once: a disk's files gone over beside the document's list of them.
-/
import Derived.Test.YtdbkhigocjmfoaaDskCrash
import Derived.BigQuiet
namespace Go.Proofs.Ytdbkhigocjmfoaa
open Go.RowKit Go.Maps Go.Shelf
open DskM
set_option linter.unusedVariables false
set_option linter.unusedSimpArgs false
set_option maxRecDepth 100000
attribute [local go_sem] Oper.semAt_some

/-- The document's files in memory: a row of names, bytes, numbers. -/
def RowAt (w : World) (A : Option Addr) (F : List Fp) : Prop :=
  ∀ k (h : k < F.length), ∃ b o A1 c1, A = some ⟨b, o, none⟩ ∧ w.cell? ⟨b, o + k * 3, none⟩ = some (.string ⟨F[k].1.toArray⟩) ∧ w.cell? ⟨b, o + k * 3 + 1, none⟩ = some (.slice A1 F[k].2.1.length c1) ∧
    w.cell? ⟨b, o + k * 3 + 2, none⟩ = some (.int .i64 (F[k].2.2 : Int)) ∧ Sl w (.slice A1 F[k].2.1.length c1) F[k].2.1
theorem RowAt.below {w w' : World} {A : Option Addr} {F : List Fp} (h : RowAt w A F) (hb : Below w.heap.size w w') : RowAt w' A F := fun k hk => by
  obtain ⟨b, o, A1, c1, e, h1, h2, h3, h4⟩ := h k hk
  exact ⟨b, o, A1, c1, e, (hb.cell (World.block_lt_of_cell? w _ h1)).trans h1, (hb.cell (World.block_lt_of_cell? w _ h2)).trans h2, (hb.cell (World.block_lt_of_cell? w _ h3)).trans h3, h4.below hb⟩
/-- What Files does for a disk, in whatever world behind this one. -/
def FilesOk (w : World) (P : Option Addr) (N : List Nm) (Z : List Nat) : Prop :=
  ∀ W, Below w.heap.size w W → Calls Try.prog 23 #[.pointer P] W fun e W' => e = .returned (.func (.func 51) #[] #[.pointer (some ⟨W.heap.size, 0, none⟩), .pointer (some ⟨W.heap.size + 1, 0, none⟩)]) ∧
    NotedIn W' W.heap.size W'.heap.size W.heap.size (W.heap.size + 1) N Z ∧ Below W.heap.size W W'
theorem Dk.filesOk {w : World} {p m : Nat} {S : Ds} {L : List Fo} (h : Dk w p m S L) : FilesOk w (some ⟨p, 0, none⟩) (L.map Fo.nm) (L.map fun f => f.bs.length) := fun W hb =>
  (files_any (h.below hb)).mono fun e W' ⟨he, hn, hB⟩ => ⟨he, hn.at (Nat.le_refl _) (Nat.le_succ _), hB⟩
theorem Nd.filesOk {w : World} {P : Option Addr} (h : Nd w P) : FilesOk w P [] [] := fun W hb => by
  have hB1 := (Blk.new W 85 #[.slice none 0 0]).alloc (.cells #[.slice none 0 0] 39)
  have hB2 := Blk.new (W.alloc (.cells #[.slice none 0 0] 85)) 39 #[.slice none 0 0]
  rw [show (W.alloc (.cells #[.slice none 0 0] 85)).heap.size = W.heap.size + 1 by simp] at hB2
  have hb0 : Below W.heap.size W ((W.alloc (.cells #[.slice none 0 0] 85)).alloc (.cells #[.slice none 0 0] 39)) := ((Below.refl _ _).alloc (Nat.le_refl _) _).alloc (by simp) _
  have hn := none_no ((h.below hb).below hb0)
  have c1 : ((W.alloc (.cells #[.slice none 0 0] 85)).alloc (.cells #[.slice none 0 0] 39)).cell? ⟨W.heap.size, 0, none⟩ = some (.slice none 0 0) := by rw [hB1.cell]; rfl
  have hN : NotedIn ((W.alloc (.cells #[.slice none 0 0] 85)).alloc (.cells #[.slice none 0 0] 39)) W.heap.size ((W.alloc (.cells #[.slice none 0 0] 85)).alloc (.cells #[.slice none 0 0] 39)).heap.size W.heap.size (W.heap.size + 1) [] [] :=
    ⟨none, 0, none, 0, c1, by rw [hB2.cell]; rfl, ⟨Nat.le_refl _, by simp; omega⟩, ⟨by omega, by simp⟩, fun k h1 => absurd h1 (by simp)⟩
  have HN := Lib.hid (And.intro hN hb0)
  clear hN hb0 hB1 hB2 h
  go_enter Try.func23, Try.ntmps23
  go_wp2_with fail
  refine hn.mono ?_
  rintro e w1 ⟨rfl, rfl⟩
  clear hn
  go_wp2_with fail
  go_loopw [18] (fun z wr => z = .int .i64 0 ∧ wr = ((W.alloc (.cells #[.slice none 0 0] 85)).alloc (.cells #[.slice none 0 0] 39))) (fun _ _ => 0)
  case atStart => exact ⟨rfl, rfl⟩
  case round =>
    obtain ⟨rfl, rfl⟩ := hrel
    go_wp2
    go_ret
    exact ⟨rfl, HN.out.1, HN.out.2⟩

section
variable {N : List Nm} {Z : List Nat}
def OnI (w : World) (hi q : Nat) (most : Int) (pre : List (Ent N Z)) (W : World) : Prop :=
  (Below w.heap.size w W ∧ hi ≤ W.heap.size) ∧ Blk W w.heap.size 30 #[.pointer (some ⟨q, 0, none⟩)] ∧ Blk W (w.heap.size + 1) 3 #[.int .i64 most] ∧ Blk W (w.heap.size + 1 + 1) 4 #[.bool false] ∧ Blk W (w.heap.size + 1 + 1 + 1) 3 #[.int .i64 (pre.length : Int)] ∧
    pre.map (·.1) = (N.zip Z).take pre.length
def OnX (w : World) (c : Code) (pre : List (Ent N Z)) (W : World) : Prop :=
  Below w.heap.size w W ∧ c = .ret ∧ ∃ v, Blk W (w.heap.size + 1 + 1) 4 #[.bool v] ∧ (v = true ∨ ¬ pre.map (·.1) = (N.zip Z).take pre.length)
theorem OnI.own {w : World} {q : Nat} {most : Int} {hi : Nat} (h0 : w.heap.size ≤ hi) : OwnFrom hi (OnI (N := N) (Z := Z) w hi q most) := by
  rintro pre X Y row ⟨⟨hb, hz⟩, b1, b2, b3, b4, e⟩ hg hr
  exact ⟨⟨hb.grown hg hb.size (fun k e => by have := (hr k e).1; omega), Nat.le_trans hz hg.size⟩, b1.own hg (fun r e => hr r e), b2.own hg (fun r e => hr r e), b3.own hg (fun r e => hr r e), b4.own hg (fun r e => hr r e), e⟩
theorem OnX.own {w : World} {hi : Nat} (h0 : w.heap.size ≤ hi) (c : Code) : OwnFrom hi (OnX (N := N) (Z := Z) w c) := by
  rintro pre X Y row ⟨hb, rfl, v, b3, e⟩ hg hr
  exact ⟨hb.grown hg hb.size (fun k e => by have := (hr k e).1; omega), rfl, v, b3.own hg (fun r e => hr r e), e⟩
end
theorem func_nil (f : Nat) (caps : Array Value) (w : World) : (binOp .eql 52 (.func (.func f) #[] caps) .nilFunc).run Try.prog w = .ok (.bool false) w := by kernel_rfl
set_option maxHeartbeats 8000000 in
theorem once_any (P : Option Addr) (w : World) (q : Nat) (F : List Fp) (AL : Option Addr) (cL : Nat) (hF : F.length ≤ 64) (most : Int) (hfi : FilesOk w P (F.map (·.1)) (F.map (·.2.1.length)))
    (hq : w.cell? ⟨q, 0, none⟩ = some (.slice AL F.length cL)) (hR : RowAt w AL F) :
    Calls Try.prog 37 #[.pointer P, .pointer (some ⟨q, 0, none⟩), .int .i64 most] w fun e w' => e = .returned (.bool true) ∧ Below w.heap.size w w' := by
  have hfo : Try.prog.follows .mixedOrders = true := by kernel_rfl
  have hfn := func_nil
  obtain ⟨W4, hW4⟩ : ∃ W4, W4 = (((w.alloc (.cells #[.pointer (some ⟨q, 0, none⟩)] 30)).alloc (.cells #[.int .i64 most] 3)).alloc (.cells #[.bool false] 4)).alloc (.cells #[.int .i64 0] 3) := ⟨_, rfl⟩
  have hb4 : Below w.heap.size w W4 := by rw [hW4]; exact (((((Below.refl _ _).alloc (Nat.le_refl _) _).alloc (by simp) _).alloc (by simp; omega) _).alloc (by simp; omega) _)
  have hz4 : W4.heap.size = w.heap.size + 4 := by rw [hW4]; simp
  have h1 : Blk W4 w.heap.size 30 #[.pointer (some ⟨q, 0, none⟩)] := by rw [hW4]; exact (((Blk.new w _ _).alloc _).alloc _).alloc _
  have h2 : Blk W4 (w.heap.size + 1) 3 #[.int .i64 most] := by
    have := ((Blk.new (w.alloc (.cells #[.pointer (some ⟨q, 0, none⟩)] 30)) 3 #[.int .i64 most]).alloc (.cells #[.bool false] 4)).alloc (.cells #[.int .i64 0] 3)
    rw [World.size_alloc] at this
    rw [hW4]; exact this
  have h3 : Blk W4 (w.heap.size + 1 + 1) 4 #[.bool false] := by
    have := (Blk.new ((w.alloc (.cells #[.pointer (some ⟨q, 0, none⟩)] 30)).alloc (.cells #[.int .i64 most] 3)) 4 #[.bool false]).alloc (.cells #[.int .i64 0] 3)
    rw [World.size_alloc, World.size_alloc] at this
    rw [hW4]; exact this
  have h4 : Blk W4 (w.heap.size + 1 + 1 + 1) 3 #[.int .i64 0] := by
    have := Blk.new (((w.alloc (.cells #[.pointer (some ⟨q, 0, none⟩)] 30)).alloc (.cells #[.int .i64 most] 3)).alloc (.cells #[.bool false] 4)) 3 #[.int .i64 0]
    rw [World.size_alloc, World.size_alloc, World.size_alloc] at this
    rw [hW4]; exact this
  have hcf := hfi W4 hb4
  rw [hW4] at hcf
  have HW4 := Lib.hid hW4
  have HB4 := Lib.hid hb4
  have HZ4 := Lib.hid hz4
  have HI := Lib.hid (And.intro h1 (And.intro h2 (And.intro h3 h4)))
  have HQ := Lib.hid hq
  have HR := Lib.hid hR
  clear hW4 hb4 hz4 h1 h2 h3 h4 hfi hq hR
  refine (callsIn_wide (n := 8)).1 ?_
  refine callsIn_of_wp_marks Try.func37 rfl trivial ?_ rfl
  simp only [Try.ntmps37, List.size_toArray, List.length_cons, List.length_nil, Nat.reduceAdd, Nat.reduceSub, Array.replicate_succ, Array.replicate_zero, List.push_toArray, List.append_toArray, List.nil_append, List.cons_append]
  gi_wp2_with fail
  refine ⟨trivial, (callsIn_wide.2 hcf).mono ?_⟩
  rintro e w5 ⟨rfl, hni, hb5⟩
  clear hcf
  rw [← HW4.out] at hni hb5 ⊢
  rw [HZ4.out] at hni
  have hz5 : w.heap.size + 4 ≤ w5.heap.size := by have := hb5.size; have := HZ4.out; omega
  have hst := each_stops Fence.wide 7 trivial rfl (by omega) (w.heap.size + 4) (w.heap.size + 4 + 1) (w.heap.size + 4) w5.heap.size (F.map (·.1)) (F.map (·.2.1.length)) (by simp) (by simpa using hF) w5 (Nat.le_refl _) hni
  have HST := Lib.hid hst
  have hI0 : OnI (N := F.map (·.1)) (Z := F.map (·.2.1.length)) w w5.heap.size q most [] w5 :=
    ⟨⟨HB4.out.trans (hb5.mono HB4.out.size), Nat.le_refl _⟩, HI.out.1.below hb5 HI.out.1.lt, HI.out.2.1.below hb5 HI.out.2.1.lt, HI.out.2.2.1.below hb5 HI.out.2.2.1.lt, HI.out.2.2.2.below hb5 HI.out.2.2.2.lt, rfl⟩
  have HI0 := Lib.hid hI0
  clear hst hni hI0 hb5
  rw [HZ4.out]
  gi_wp2_with fail
  refine' wpIn_rangeFunc_ownG rfl (by omega) (gf := 51) (lb := #[.pointer (some ⟨w.heap.size + 4, 0, none⟩), .pointer (some ⟨w.heap.size + 4 + 1, 0, none⟩)]) rfl trivial (enters_of Try.func51 (by kernel_rfl) rfl)
    HST.out (fun {A B C} h k => Mid.trans h k) (Mid.putObj (Nat.le_refl _)) (Below.refl _ _) (fun _ => rfl)
    (OnI w w5.heap.size q most) (OnX w) (OnI.own (by omega)) (OnX.own (by omega)) HI0.out _ ?assign ?body ?done ?stop
  case assign =>
    intro l x W K hK
    dsimp only [encE]
    gi_wp2
    exact hK
  case body =>
    intro l pre x W hI hlen
    obtain ⟨⟨hb, hz⟩, b1, b2, b3, b4, hpre⟩ := hI
    have hnF : pre.length < F.length := by simpa using hlen
    obtain ⟨b, o, A1, cc, eA, r1, r2, r3, r4⟩ := (HR.out.below hb) pre.length hnF
    subst eA
    have q0 : W.cell? ⟨w.heap.size, 0, none⟩ = some (.pointer (some ⟨q, 0, none⟩)) := by rw [b1.cell]; rfl
    have q1 : W.cell? ⟨w.heap.size + 1, 0, none⟩ = some (.int .i64 most) := by rw [b2.cell]; rfl
    have q3 : W.cell? ⟨w.heap.size + 1 + 1 + 1, 0, none⟩ = some (.int .i64 (pre.length : Int)) := by rw [b4.cell]; rfl
    have z3 := b4.frozen 0
    have z2 := b3.frozen 0
    have q2 : W.cell? ⟨w.heap.size + 1 + 1, 0, none⟩ = some (.bool false) := by rw [b3.cell]; rfl
    have qq : W.cell? ⟨q, 0, none⟩ = some (.slice (some ⟨b, o, none⟩) F.length cL) := (hb.cell (World.block_lt_of_cell? w _ HQ.out)).trans HQ.out
    obtain ⟨y, hy⟩ : ∃ y, F[pre.length] = y := ⟨_, rfl⟩
    rw [hy] at r1 r2
    have hzip : ((F.map (·.1)).zip (F.map (·.2.1.length))).take (pre.length + 1) = ((F.map (·.1)).zip (F.map (·.2.1.length))).take pre.length ++ [(y.1, y.2.1.length)] := by
      have hl : pre.length < ((F.map (·.1)).zip (F.map (·.2.1.length))).length := by simpa using hnF
      rw [List.take_succ_eq_append_getElem hl]
      congr 2
      simp [hy]
    have hnd : decide ((F.length : Int) ≤ (pre.length : Int)) = false := decide_eq_false (by omega)
    have hnd2 : decide (F.length ≤ pre.length) = false := decide_eq_false (by omega)
    have hnlt2 : pre.length < F.length := hnF
    have hn0 : (0 : Int) ≤ (pre.length : Int) := by omega
    have hnlt : (pre.length : Int) < (F.length : Int) := by omega
    have hn64 : (F.length : Int) ≤ 64 := by omega
    have HZIP := Lib.hid hzip
    have HPRE := Lib.hid hpre
    have HB := Lib.hid (And.intro hb (And.intro hz (And.intro b1 (And.intro b2 (And.intro b3 b4)))))
    clear hzip hpre hb hz b1 b2 b3 b4 hlen r3 r4 hy hnF
    obtain ⟨n, hnn⟩ : ∃ n, n = pre.length := ⟨_, rfl⟩
    rw [← hnn] at r1 r2 q3 hnd hn0 hnlt hnd2 hnlt2
    obtain ⟨fl, hfl⟩ : ∃ fl, fl = F.length := ⟨_, rfl⟩
    rw [← hfl] at qq hnd hnlt hn64 hnd2 hnlt2
    have HNN := Lib.hid hnn
    have HFL := Lib.hid hfl
    clear hnn hfl
    have hbad : ¬ (x.1 = (y.1, y.2.1.length)) → ¬ (pre ++ [x]).map (·.1) = ((F.map (·.1)).zip (F.map (·.2.1.length))).take (pre ++ [x]).length := by
      intro hne h
      rw [List.length_append, List.length_singleton, HZIP.out, List.map_append] at h
      have h2 := (List.append_inj' h rfl).2
      injection h2 with h2
      exact hne h2
    have HBAD := Lib.hid hbad
    clear hbad
    by_cases hx1 : x.1.1 = y.1
    · by_cases hx2 : x.1.2 = y.2.1.length
      · rw [hx1, hx2]
        have hpre' : (pre ++ [x]).map (·.1) = ((F.map (·.1)).zip (F.map (·.2.1.length))).take (pre ++ [x]).length := by
          rw [List.length_append, List.length_singleton, HZIP.out, List.map_append, HPRE.out]
          congr 1
          show [x.1] = _
          rw [show x.1 = (x.1.1, x.1.2) from rfl, hx1, hx2]
        have HPRE' := Lib.hid hpre'
        clear hpre' hx1 hx2
        generalize (ByteArray.mk y.1.toArray) = s at r1 ⊢
        generalize y.2.1.length = zl at r2 HBAD HZIP ⊢
        gi_upto_region 8 with (fail)
        refine wpIn_region_quiet_round hfo (by kernel_rfl) (fun _ _ h => h) (by kernel_rfl) ?_
        repeat (first | go_big_quiet_skip | go_big_quiet_step (fail))
        refine wpQuiet_nil ?_
        intro _ hw'
        obtain ⟨nq, hw''⟩ := hw'
        subst hw''
        have q2' : (W.drewN nq).cell? ⟨w.heap.size + 1 + 1, 0, none⟩ = some (.bool false) := q2
        have z2' : (W.drewN nq).frozen? ⟨w.heap.size + 1 + 1, 0, none⟩ = false := z2
        have q3' : (W.drewN nq).cell? ⟨w.heap.size + 1 + 1 + 1, 0, none⟩ = some (.int .i64 (n : Int)) := q3
        have z3' : (W.drewN nq).frozen? ⟨w.heap.size + 1 + 1 + 1, 0, none⟩ = false := z3
        have q1' : (W.drewN nq).cell? ⟨w.heap.size + 1, 0, none⟩ = some (.int .i64 most) := q1
        have hw1 : IntKind.i64.wrap ((n : Int) + 1) = (n : Int) + 1 := by rw [IntKind.wrap_i64] <;> omega
        have hbN := HB.out.1.trans ((below_drewN (Below.refl W.heap.size W) nq).mono HB.out.1.size)
        have hk1 : Keep (fun i => i = w.heap.size + 1 + 1 + 1) W ((W.drewN nq).setCell ⟨w.heap.size + 1 + 1 + 1, 0, none⟩ (.int .i64 ((n : Int) + 1))) := (Keep.of_below (S := fun i => i = w.heap.size + 1 + 1 + 1) (below_drewN (Below.refl W.heap.size W) nq)).trans (Keep.setCell (S := fun i => i = w.heap.size + 1 + 1 + 1) _ _ _ rfl) (fun _ h => h) (fun _ _ h => h)
        have hb1 := hbN.setCell (p := ⟨w.heap.size + 1 + 1 + 1, 0, none⟩) (by show w.heap.size ≤ w.heap.size + 1 + 1 + 1; omega) (.int .i64 ((n : Int) + 1))
        have hBn : Blk ((W.drewN nq).setCell ⟨w.heap.size + 1 + 1 + 1, 0, none⟩ (.int .i64 ((n : Int) + 1))) (w.heap.size + 1 + 1 + 1) 3 #[.int .i64 ((n : Int) + 1)] := (HB.out.2.2.2.2.2.drewN nq).set_ 0 _
        have hB3 := HB.out.2.2.2.2.1.kept hk1 (fun e => by omega)
        have hI1 : OnI (N := F.map (·.1)) (Z := F.map (·.2.1.length)) w w5.heap.size q most (pre ++ [x]) ((W.drewN nq).setCell ⟨w.heap.size + 1 + 1 + 1, 0, none⟩ (.int .i64 ((n : Int) + 1))) :=
          ⟨⟨hb1, by have := hk1.size; have := HB.out.2.1; omega⟩, HB.out.2.2.1.kept hk1 (fun e => by omega), HB.out.2.2.2.1.kept hk1 (fun e => by omega), hB3, by rw [List.length_append, List.length_singleton, ← HNN.out]; exact hBn, HPRE'.out⟩
        have hkf1 := keepsFrom_of_keep (B := w5.heap.size) hk1 (fun i e => by omega)
        have hmd1 : Mid (w.heap.size + 4) w5.heap.size W ((W.drewN nq).setCell ⟨w.heap.size + 1 + 1 + 1, 0, none⟩ (.int .i64 ((n : Int) + 1))) := Mid.of_keep hk1 HB.out.2.1 (fun k h1 h2 e => by omega)
        have hX1 : OnX (N := F.map (·.1)) (Z := F.map (·.2.1.length)) w .ret (pre ++ [x]) (((W.drewN nq).setCell ⟨w.heap.size + 1 + 1 + 1, 0, none⟩ (.int .i64 ((n : Int) + 1))).setCell ⟨w.heap.size + 1 + 1, 0, none⟩ (.bool true)) :=
          ⟨hb1.setCell (p := ⟨w.heap.size + 1 + 1, 0, none⟩) (by show w.heap.size ≤ w.heap.size + 1 + 1; omega) _, rfl, true, hB3.set_ 0 _, .inl rfl⟩
        have hkf2 := keepsFrom_of_keep (B := w5.heap.size) (hk1.trans (U := fun i => i = w.heap.size + 1 + 1 + 1 ∨ i = w.heap.size + 1 + 1) (Keep.setCell (S := fun i => i = w.heap.size + 1 + 1) _ ⟨w.heap.size + 1 + 1, 0, none⟩ (.bool true) rfl) (fun _ h => .inl h) (fun _ _ h => .inr h)) (fun i e => by omega)
        have HE := Lib.hid (And.intro hkf1 (And.intro hmd1 (And.intro hI1 (And.intro hkf2 hX1))))
        clear hbN hk1 hb1 hBn hB3 hI1 hkf1 hmd1 hX1 hkf2
        by_cases hm : ((n : Int) + 1) = most
        · have hmb : (((n : Int) + 1) == most) = true := by rw [beq_iff_eq]; exact hm
          have HM := Lib.hid hm
          clear hm
          gi_wp2
          exact ⟨HE.out.2.2.2.1, HE.out.2.2.2.2⟩
        · have hmb : (((n : Int) + 1) == most) = false := by rw [beq_eq_false_iff_ne]; exact hm
          have HM := Lib.hid hm
          clear hm
          gi_wp2
          exact ⟨HE.out.1, HE.out.2.1, HE.out.2.2.1⟩
      · have HX := Lib.hid (HBAD.out (fun e => hx2 (by rw [e])))
        have hz : ((x.1.2 : Int) == (y.2.1.length : Int)) = false := by rw [beq_eq_false_iff_ne]; omega
        rw [hx1]
        clear hx1 hx2
        generalize (ByteArray.mk y.1.toArray) = s at r1 ⊢
        generalize y.2.1.length = zl at r2 hz HBAD HZIP ⊢
        gi_upto_region 8 with (fail)
        refine wpIn_region_quiet_round hfo (by kernel_rfl) (fun _ _ h => h) (by kernel_rfl) ?_
        repeat (first | go_big_quiet_skip | go_big_quiet_step (fail))
        refine wpQuiet_nil ?_
        intro _ hw'
        obtain ⟨nq, hw''⟩ := hw'
        subst hw''
        have q2' : (W.drewN nq).cell? ⟨w.heap.size + 1 + 1, 0, none⟩ = some (.bool false) := q2
        have z2' : (W.drewN nq).frozen? ⟨w.heap.size + 1 + 1, 0, none⟩ = false := z2
        have q3' : (W.drewN nq).cell? ⟨w.heap.size + 1 + 1 + 1, 0, none⟩ = some (.int .i64 (n : Int)) := q3
        have z3' : (W.drewN nq).frozen? ⟨w.heap.size + 1 + 1 + 1, 0, none⟩ = false := z3
        have q1' : (W.drewN nq).cell? ⟨w.heap.size + 1, 0, none⟩ = some (.int .i64 most) := q1
        have hbN := HB.out.1.trans ((below_drewN (Below.refl W.heap.size W) nq).mono HB.out.1.size)
        have hB3 : Blk (W.drewN nq) (w.heap.size + 1 + 1) 4 #[.bool false] := HB.out.2.2.2.2.1.drewN nq
        have hkk : Keep (fun i => i = w.heap.size + 1 + 1) W ((W.drewN nq).setCell ⟨w.heap.size + 1 + 1, 0, none⟩ (.bool false)) := (Keep.of_below (S := fun i => i = w.heap.size + 1 + 1) (below_drewN (Below.refl W.heap.size W) nq)).trans (Keep.setCell (S := fun i => i = w.heap.size + 1 + 1) _ _ _ rfl) (fun _ h => h) (fun _ _ h => h)
        have hE := Lib.hid (And.intro (hbN.setCell (p := ⟨w.heap.size + 1 + 1, 0, none⟩) (by show w.heap.size ≤ w.heap.size + 1 + 1; omega) (.bool false)) (And.intro (hB3.set_ 0 (.bool false)) (keepsFrom_of_keep (B := w5.heap.size) hkk (fun i e => by omega))))
        clear hbN hB3 hkk
        gi_wp2
        exact ⟨hE.out.2.2, hE.out.1, rfl, false, hE.out.2.1, .inr HX.out⟩
    · have HX := Lib.hid (HBAD.out (fun e => hx1 (by rw [e])))
      have hz : (x.1.1 == (ByteArray.mk y.1.toArray).toList) = false := by
        rw [ByteArray.toList_eq, beq_eq_false_iff_ne]
        exact hx1
      clear hx1
      generalize (ByteArray.mk y.1.toArray) = s at r1 hz ⊢
      gi_upto_region 8 with (fail)
      refine wpIn_region_quiet_round hfo (by kernel_rfl) (fun _ _ h => h) (by kernel_rfl) ?_
      repeat (first | go_big_quiet_skip | go_big_quiet_step (fail))
      refine wpQuiet_nil ?_
      intro _ hw'
      obtain ⟨nq, hw''⟩ := hw'
      subst hw''
      have q2' : (W.drewN nq).cell? ⟨w.heap.size + 1 + 1, 0, none⟩ = some (.bool false) := q2
      have z2' : (W.drewN nq).frozen? ⟨w.heap.size + 1 + 1, 0, none⟩ = false := z2
      have q3' : (W.drewN nq).cell? ⟨w.heap.size + 1 + 1 + 1, 0, none⟩ = some (.int .i64 (n : Int)) := q3
      have z3' : (W.drewN nq).frozen? ⟨w.heap.size + 1 + 1 + 1, 0, none⟩ = false := z3
      have q1' : (W.drewN nq).cell? ⟨w.heap.size + 1, 0, none⟩ = some (.int .i64 most) := q1
      have hbN := HB.out.1.trans ((below_drewN (Below.refl W.heap.size W) nq).mono HB.out.1.size)
      have hB3 : Blk (W.drewN nq) (w.heap.size + 1 + 1) 4 #[.bool false] := HB.out.2.2.2.2.1.drewN nq
      have hkk : Keep (fun i => i = w.heap.size + 1 + 1) W ((W.drewN nq).setCell ⟨w.heap.size + 1 + 1, 0, none⟩ (.bool false)) := (Keep.of_below (S := fun i => i = w.heap.size + 1 + 1) (below_drewN (Below.refl W.heap.size W) nq)).trans (Keep.setCell (S := fun i => i = w.heap.size + 1 + 1) _ _ _ rfl) (fun _ h => h) (fun _ _ h => h)
      have hE := Lib.hid (And.intro (hbN.setCell (p := ⟨w.heap.size + 1 + 1, 0, none⟩) (by show w.heap.size ≤ w.heap.size + 1 + 1; omega) (.bool false)) (And.intro (hB3.set_ 0 (.bool false)) (keepsFrom_of_keep (B := w5.heap.size) hkk (fun i e => by omega))))
      clear hbN hB3 hkk
      gi_wp2
      exact ⟨hE.out.2.2, hE.out.1, rfl, false, hE.out.2.1, .inr HX.out⟩
  case done =>
    rintro D xs W hD rfl ⟨⟨hb, hz⟩, b1, b2, b3, b4, hpre⟩ hKd
    have hln : (((F.map (·.1)).zip (F.map (·.2.1.length))).attach).length = F.length := by simp
    rw [hln] at b4
    have q0 : W.drew.cell? ⟨w.heap.size, 0, none⟩ = some (.pointer (some ⟨q, 0, none⟩)) := by rw [b1.drew.cell]; rfl
    have q3 : W.drew.cell? ⟨w.heap.size + 1 + 1 + 1, 0, none⟩ = some (.int .i64 (F.length : Int)) := by rw [b4.drew.cell]; rfl
    have qq : W.drew.cell? ⟨q, 0, none⟩ = some (.slice AL F.length cL) := by
      show W.cell? _ = _
      exact (hb.cell (World.block_lt_of_cell? w _ HQ.out)).trans HQ.out
    have z2 : W.drew.frozen? ⟨w.heap.size + 1 + 1, 0, none⟩ = false := b3.drew.frozen 0
    have q2 : W.drew.cell? ⟨w.heap.size + 1 + 1, 0, none⟩ = some (.bool false) := by rw [b3.drew.cell]; rfl
    have hqb := World.block_lt_of_cell? w _ HQ.out
    have hb2 : Below w.heap.size w (W.drew.setCell ⟨w.heap.size + 1 + 1, 0, none⟩ (.bool true)) := (hb.trans ((Below.refl W.heap.size W).drew.mono hb.size)).setCell (p := ⟨w.heap.size + 1 + 1, 0, none⟩) (by show w.heap.size ≤ w.heap.size + 1 + 1; omega) _
    have hB3 : Blk (W.drew.setCell ⟨w.heap.size + 1 + 1, 0, none⟩ (.bool true)) (w.heap.size + 1 + 1) 4 #[.bool true] := b3.drew.set_ 0 _
    have hD2 : (W.drew.setCell ⟨w.heap.size + 1 + 1, 0, none⟩ (.bool true)).heap[D]? = some (.deferred (some [])) := (KeepsOthers.setCell W.drew ⟨w.heap.size + 1 + 1, 0, none⟩ (.bool true)).same D _ hKd rfl
    have hgr := grownBy_putObj' (W.drew.setCell ⟨w.heap.size + 1 + 1, 0, none⟩ (.bool true)) D (.deferred none)
    have hBe := hB3.own (B := 0) hgr (fun r e => by injection e with e; subst e; exact ⟨Nat.zero_le _, _, hD2, rfl⟩)
    have hbe := hb2.grown hgr hb2.size (fun k e => by injection e with e; omega)
    have hce : (((W.drew.setCell ⟨w.heap.size + 1 + 1, 0, none⟩ (.bool true)).putObj D (.deferred none))).cell? ⟨w.heap.size + 1 + 1, 0, none⟩ = some (.bool true) := by rw [hBe.cell]; rfl
    have hS0 : W.drew.cell? ⟨w.heap.size, 0, none⟩ = some (.pointer (some ⟨q, 0, none⟩)) ∧ W.drew.cell? ⟨w.heap.size + 1 + 1 + 1, 0, none⟩ = some (.int .i64 (F.length : Int)) ∧ W.drew.cell? ⟨q, 0, none⟩ = some (.slice AL F.length cL) := ⟨q0, q3, qq⟩
    have hk1 : Keep (fun i => i = w.heap.size + 1 + 1) W.drew (W.drew.setCell ⟨w.heap.size + 1 + 1, 0, none⟩ (.bool true)) := Keep.setCell _ _ _ rfl
    have HS1 := Lib.hid (show (W.drew.setCell ⟨w.heap.size + 1 + 1, 0, none⟩ (.bool true)).cell? ⟨w.heap.size, 0, none⟩ = some (.pointer (some ⟨q, 0, none⟩)) ∧ (W.drew.setCell ⟨w.heap.size + 1 + 1, 0, none⟩ (.bool true)).cell? ⟨w.heap.size + 1 + 1 + 1, 0, none⟩ = some (.int .i64 (F.length : Int)) ∧ (W.drew.setCell ⟨w.heap.size + 1 + 1, 0, none⟩ (.bool true)).cell? ⟨q, 0, none⟩ = some (.slice AL F.length cL) from
      ⟨hk1.cell q0 (fun e => by have e : w.heap.size = w.heap.size + 1 + 1 := e; omega), hk1.cell q3 (fun e => by have e : w.heap.size + 1 + 1 + 1 = w.heap.size + 1 + 1 := e; omega), hk1.cell qq (fun e => by have e : q = w.heap.size + 1 + 1 := e; have hqb : q < w.heap.size := hqb; omega)⟩)
    have HD := Lib.hid hD2
    have HE := Lib.hid hbe
    have HC := Lib.hid hce
    clear hb hz b1 b2 b3 b4 hpre q0 q3 qq hb2 hB3 hD2 hgr hBe hbe hce hk1 hKd hqb
    gi_wp2_with fail
    refine wpIn_only (wpIn_wide.2 ?_)
    refine wp_region_held_drew (S := fun X => X.cell? ⟨w.heap.size, 0, none⟩ = some (.pointer (some ⟨q, 0, none⟩)) ∧ X.cell? ⟨w.heap.size + 1 + 1 + 1, 0, none⟩ = some (.int .i64 (F.length : Int)) ∧ X.cell? ⟨q, 0, none⟩ = some (.slice AL F.length cL)) hfo hS0 (fun _ => ?_)
    obtain ⟨W2, hW2⟩ : ∃ W2, W2 = W.drew := ⟨_, rfl⟩
    rw [← hW2] at hS0 z2 q2 HS1 HD HE HC ⊢
    clear hW2
    refine' wpAnyH_take (i := 0) (oi := ⟨some 55, _, _, _, _, _⟩) (v := _) rfl (by kernel_rfl) (by kernel_rfl) (by kernel_rfl) (fun _ _ _ h => h) (Or.inl ⟨by rfl, ?y0⟩) hS0 ?r0
    case y0 => (intro w' hSw; obtain ⟨s0, s1, s2⟩ := hSw; go_simp; try rfl)
    try simp only [Act.put, List.setIfInBounds_toArray, List.set_cons_zero, List.set_cons_succ]
    refine' wpAnyH_take (i := 1) (oi := ⟨some 56, _, _, _, _, _⟩) (v := _) rfl (by kernel_rfl) (by kernel_rfl) (by kernel_rfl) (fun _ _ _ h => h) (Or.inl ⟨by rfl, ?y1⟩) hS0 ?r1
    case y1 => (intro w' hSw; obtain ⟨s0, s1, s2⟩ := hSw; go_simp; try rfl)
    try simp only [Act.put, List.setIfInBounds_toArray, List.set_cons_zero, List.set_cons_succ]
    refine' wpAnyH_take (i := 2) (oi := ⟨some 57, _, _, _, _, _⟩) (v := _) rfl (by kernel_rfl) (by kernel_rfl) (by kernel_rfl) (fun _ _ _ h => h) (Or.inl ⟨by rfl, ?y2⟩) hS0 ?r2
    case y2 => (intro w' hSw; obtain ⟨s0, s1, s2⟩ := hSw; go_simp; try rfl)
    try simp only [Act.put, List.setIfInBounds_toArray, List.set_cons_zero, List.set_cons_succ]
    refine' wpAnyH_take (i := 3) (oi := ⟨some 58, _, _, _, _, _⟩) (v := _) rfl (by kernel_rfl) (by kernel_rfl) (by kernel_rfl) (fun _ _ _ h => h) (Or.inl ⟨by rfl, ?y3⟩) hS0 ?r3
    case y3 => (intro w' hSw; obtain ⟨s0, s1, s2⟩ := hSw; go_simp; try rfl)
    try simp only [Act.put, List.setIfInBounds_toArray, List.set_cons_zero, List.set_cons_succ]
    refine' wpAnyH_take (i := 4) (oi := ⟨some 59, _, _, _, _, _⟩) (v := _) rfl (by kernel_rfl) (by kernel_rfl) (by kernel_rfl) (fun _ _ _ h => h) (Or.inl ⟨by rfl, ?y4⟩) hS0 ?r4
    case y4 => (intro w' hSw; obtain ⟨s0, s1, s2⟩ := hSw; go_simp; try rfl)
    try simp only [Act.put, List.setIfInBounds_toArray, List.set_cons_zero, List.set_cons_succ]
    refine' wpAnyH_take (i := 5) (oi := ⟨some 60, _, _, _, _, _⟩) (v := _) rfl (by kernel_rfl) (by kernel_rfl) (by kernel_rfl) (fun _ _ _ h => h) (Or.inl ⟨by rfl, ?y5⟩) hS0 ?r5
    case y5 => (intro w' hSw; obtain ⟨s0, s1, s2⟩ := hSw; go_simp; try rfl)
    try simp only [Act.put, List.setIfInBounds_toArray, List.set_cons_zero, List.set_cons_succ]
    refine' wpAnyH_take (i := 6) (oi := ⟨some 61, _, _, _, _, _⟩) (v := _) rfl (by kernel_rfl) (by kernel_rfl) (by kernel_rfl) (fun _ _ _ h => h) (Or.inl ⟨by rfl, ?y6⟩) hS0 ?r6
    case y6 => (intro w' hSw; obtain ⟨s0, s1, s2⟩ := hSw; go_simp; try rfl)
    try simp only [Act.put, List.setIfInBounds_toArray, List.set_cons_zero, List.set_cons_succ]
    refine held_one (i := 7) (by kernel_rfl) rfl (fun K hK => ?_)
    go_simp
    refine hK.out _ _ HS1.out (fun _ => ?_)
    clear hK K
    try simp only [Act.put, List.setIfInBounds_toArray, List.set_cons_zero, List.set_cons_succ]
    refine wpAnyH_done (by kernel_rfl) ?_ _
    dsimp only [OnlyNormal]
    gi_wp2
    refine ⟨by simp, .inl ⟨_, _, rfl, run_takeDeferred HD.out, ?_⟩⟩
    have hc5 := HC.out
    refine ⟨.bool true, ?_, rfl, HE.out⟩
    simp [results, Try.f37, go_sem, hc5]
  case stop =>
    rintro D c pre W hD ⟨k, hk, hpre⟩ ⟨hb, rfl, v, b3, hv⟩ hKd
    have hv : v = true := hv.resolve_right (fun h => h (by
      have hlk : pre.length = k := by rw [hpre, List.length_take]; simp at hk ⊢; omega
      rw [hlk, hpre, List.map_take]
      exact congrArg _ (List.attach_map_subtype_val _)))
    subst hv
    have hgr := grownBy_putObj' W D (.deferred none)
    have hBe := b3.own (B := 0) hgr (fun r e => by injection e with e; subst e; exact ⟨Nat.zero_le _, _, hKd, rfl⟩)
    have hbe := hb.grown hgr hb.size (fun k e => by injection e with e; omega)
    have hc5 : (W.putObj D (.deferred none)).cell? ⟨w.heap.size + 1 + 1, 0, none⟩ = some (.bool true) := by rw [hBe.cell]; rfl
    have HC := Lib.hid hc5
    have HE := Lib.hid hbe
    clear hc5 hbe hBe hgr b3 hb
    gi_wp2
    refine ⟨by simp, .inl ⟨_, _, rfl, run_takeDeferred hKd, ?_⟩⟩
    have hc5 := HC.out
    refine ⟨.bool true, ?_, rfl, HE.out⟩
    simp [results, Try.f37, go_sem, hc5]
end Go.Proofs.Ytdbkhigocjmfoaa

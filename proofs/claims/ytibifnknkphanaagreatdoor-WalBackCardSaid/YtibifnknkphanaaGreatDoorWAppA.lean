/-
  (*Log).Append, (*Log).Sync.
-/
import Derived.Test.YtibifnknkphanaaGreatDoorWRemA
namespace Go.Proofs.YtibifnknkphanaaGreatDoor
open Go.RowKit Go.Maps
open DskM WalM
set_option linter.unusedVariables false
set_option linter.unusedSimpArgs false
set_option maxRecDepth 20000
attribute [local go_sem] Oper.semAt_some

theorem own_some {w : World} {B : Nat} {e : TypeId} {v : Value} {l : List UInt8} (h : Own w B e v l) (hp : 0 < l.length) : ∃ br c, v = .slice (some ⟨br, 0, none⟩) l.length c ∧ l.length ≤ c ∧ B ≤ br := by
  rcases h.2 with ⟨_, h0⟩ | ⟨g, cap, cur, e1, hg, hh, h1, _⟩
  · omega
  · exact ⟨g, cap, e1, h1, hg⟩
section
variable {D T : Nat → Prop} {w : World} {g p : Nat} {s : ByteArray} {most : Int} {S : Ds} {F : List Fp} {L : Lg}
theorem LW.new (h : LW D T w g p s most S F L) {k : Nat} (hk : w.heap.size ≤ k) : ¬ (D k ∨ T k) := fun e => e.elim (fun e => by have := h.dlt k e; omega) (fun e => by have := h.tlt k e; omega)
/-- What Append comes to. -/
def appendL (s : ByteArray) (S : Ds) (F : List Fp) (L : Lg) (b : List UInt8) : Int × Ds × List Fp × Lg :=
  if 1048576 < b.length then (3, S, F, L) else if L.dead = true then (7, S, F, L) else runP [appendNowP s (recP b), putP (recP b)] S F L
set_option maxHeartbeats 2000000 in
theorem wappend_any (h : LW D T w g p s most S F L) (hw : S.wr + 2 ≤ 1000000) (hlr : L.recs.length ≤ 1000001) (hsz : s.size ≤ 1000000) (vb : Value) (b : List UInt8) (hb : Sl w vb b) {r : Int × Ds × List Fp × Lg} (hr : appendL s S F L b = r) :
    Calls Tryz.prog 20 #[.pointer (some ⟨g, 0, none⟩), vb] w fun e w' => e = .returned (.int .i64 r.1) ∧ LT D T w g p s most r.2.1 r.2.2.1 r.2.2.2 w' := by
  have hmf : ∀ (fn : Fn) (first cap : Array Value) (w : World), (Instr.makeFunc fn first cap).run Tryz.prog w = .ok (.func fn first cap) w := fun _ _ _ _ => rfl
  have H := Lib.hid h
  obtain ⟨w1, hw1⟩ : ∃ w1, w1 = w.alloc (.cells #[.pointer (some ⟨g, 0, none⟩)] 40) := ⟨_, rfl⟩
  have hb1 : Below w.heap.size w w1 := by rw [hw1]; exact al_one w _
  have k0 : Blk w1 w.heap.size 40 #[.pointer (some ⟨g, 0, none⟩)] := by rw [hw1]; exact Blk.new w _ _
  have hbb := hb.below hb1
  have HW1 := Lib.hid hw1
  have HB1 := Lib.hid hb1
  have HK0 := Lib.hid k0
  obtain ⟨Ab, nb, cb, rfl⟩ := hb.shape
  unfold appendL at hr
  by_cases hlong : 1048576 < b.length
  · rw [if_pos hlong] at hr
    have HRC := Lib.hid (record_long _ _ w1 hbb hlong)
    have h2 : LW D T (w1.alloc (.cells #[.slice none 0 0] 22)) g p s most S F L := (h.below hb1).below (al_one w1 _)
    obtain ⟨vs, vr, hbg, _⟩ := h2.log
    have HRF := Lib.hid (refuses_any hbg 3)
    have q0 : (w1.alloc (.cells #[.slice none 0 0] 22)).cell? ⟨w.heap.size, 0, none⟩ = some (.pointer (some ⟨g, 0, none⟩)) := by rw [(k0.alloc _).cell]; rfl
    have HE := Lib.hid (LT.from (hb1.trans ((al_one w1 (.cells #[.slice none 0 0] 22)).mono hb1.size)) h2.refl)
    clear hw1 hb1 k0 hbb hb h h2 hbg
    subst hr
    go_enter Tryz.func20, Tryz.ntmps20
    go_wp2_with fail
    rw [← HW1.out]
    refine HRC.out.mono ?_
    rintro e wx ⟨rfl, hwx⟩
    rw [hwx]
    clear hwx wx HRC
    go_wp2_with fail
    refine HRF.out.mono ?_
    rintro e wx ⟨rfl, hwx⟩
    rw [hwx]
    clear hwx wx HRF
    go_wp2
    go_ret
    exact ⟨rfl, HE.out⟩
  · rw [if_neg hlong] at hr
    have HRC := Lib.hid (record_any _ _ w1 hbb (by omega))
    have HRL := Lib.hid (recP_length b)
    clear hb hbb k0 hw1 hb1 h
    go_enter Tryz.func20, Tryz.ntmps20
    go_wp2_with fail
    rw [← HW1.out]
    refine HRC.out.mono ?_
    rintro e w2 ⟨v2, rfl, ho2, hb2⟩
    obtain ⟨br, cr, hv2, hcr, hbr⟩ := own_some ho2 (by rw [HRL.out]; omega)
    subst hv2
    have hb12 : Below w.heap.size w w2 := HB1.out.trans (hb2.mono HB1.out.size)
    obtain ⟨w3, hw3⟩ : ∃ w3, w3 = w2.alloc (.cells #[.slice (some ⟨br, 0, none⟩) (recP b).length cr] 22) := ⟨_, rfl⟩
    have hb3 : Below w2.heap.size w2 w3 := by rw [hw3]; exact al_one w2 _
    have hb13 : Below w.heap.size w w3 := hb12.trans (hb3.mono hb12.size)
    have h3 := H.out.below hb13
    have q0 : (w2.alloc (.cells #[.slice (some ⟨br, 0, none⟩) (recP b).length cr] 22)).cell? ⟨w.heap.size, 0, none⟩ = some (.pointer (some ⟨g, 0, none⟩)) := by
      rw [((HK0.out.below hb2 HK0.out.lt).alloc _).cell]; rfl
    have k5 : Blk w3 w2.heap.size 22 #[.slice (some ⟨br, 0, none⟩) (recP b).length cr] := by rw [hw3]; exact Blk.new w2 _ _
    obtain ⟨vs, vr, hbg, _⟩ := h3.log
    have hrf := refuses_any hbg 0
    rw [hw3] at hrf
    have HRF := Lib.hid hrf
    have HB13 := Lib.hid hb13
    have HB3 := Lib.hid hb3
    have HO2 := Lib.hid ho2
    have HB2 := Lib.hid hb2
    have HW3 := Lib.hid hw3
    have HK5 := Lib.hid k5
    have HCR := Lib.hid hcr
    clear ho2 hb12 hb3 hb13 h3 hbg hrf HRC hb2 hw3 k5
    cases hd : L.dead with
    | true =>
      rw [hd] at hr HRF
      have HE := Lib.hid (LT.from HB13.out (H.out.below HB13.out).refl)
      rw [if_pos rfl] at hr
      subst hr
      have hrp : refP 0 true = 7 := rfl
      rw [hrp] at HRF
      rw [HW3.out] at HE
      clear hd
      go_wp2_with fail
      refine HRF.out.mono ?_
      rintro e wx ⟨rfl, hwx⟩
      rw [hwx]
      clear hwx wx HRF
      go_wp2
      go_ret
      exact ⟨rfl, HE.out⟩
    | false =>
      rw [hd] at hr HRF
      rw [if_neg (by simp)] at hr
      have hrp : refP 0 false = 0 := rfl
      rw [hrp] at HRF
      clear hd
      go_wp2_with fail
      refine HRF.out.mono ?_
      rintro e wx ⟨rfl, hwx⟩
      rw [hwx]
      clear hwx wx HRF
      obtain ⟨w4, hw4⟩ : ∃ w4, w4 = w3.alloc (.cells ([((59 : Nat), #[.pointer (some ⟨w.heap.size, 0, none⟩), .pointer (some ⟨w2.heap.size, 0, none⟩)]), ((61 : Nat), #[Value.pointer (some ⟨w.heap.size, 0, none⟩), .pointer (some ⟨w2.heap.size, 0, none⟩)])].map fnV).toArray 150) := ⟨_, rfl⟩
      have hb4 : Below w3.heap.size w3 w4 := by rw [hw4]; exact al_one w3 _
      have hb14 : Below w.heap.size w w4 := HB13.out.trans (hb4.mono HB13.out.size)
      have h4 := H.out.below hb14
      have hz2 : w.heap.size < w2.heap.size := Nat.lt_of_lt_of_le HK0.out.lt HB2.out.size
      have m0 : Blk w4 w.heap.size 40 #[.pointer (some ⟨g, 0, none⟩)] := ((HK0.out.below HB2.out HK0.out.lt).below HB3.out hz2).below hb4 (Nat.lt_of_lt_of_le hz2 HB3.out.size)
      have m1 : Blk w4 w2.heap.size 22 #[.slice (some ⟨br, 0, none⟩) (recP b).length cr] := HK5.out.below hb4 HK5.out.lt
      have hrec : SlT (fun k => ¬ D k ∧ ¬ T k) w4 (.slice (some ⟨br, 0, none⟩) (recP b).length cr) (recP b) :=
        (HO2.out.slT (T := fun k => w1.heap.size ≤ k) (fun k hk _ => hk)).kept (fun k cs hk hbk => ⟨⟨fun e => H.out.new (Nat.le_trans HB1.out.size hk) (.inl e), fun e => H.out.new (Nat.le_trans HB1.out.size hk) (.inr e)⟩, (hbk.below HB3.out hbk.lt).below hb4 (Nat.lt_of_lt_of_le hbk.lt HB3.out.size)⟩)
      have c0 : w4.cell? ⟨w.heap.size, 0, none⟩ = some (.pointer (some ⟨g, 0, none⟩)) := by rw [m0.cell]; rfl
      have c1 : w4.cell? ⟨w2.heap.size, 0, none⟩ = some (.slice (some ⟨br, 0, none⟩) (recP b).length cr) := by rw [m1.cell]; rfl
      have e0 : ¬ (D w.heap.size ∨ T w.heap.size) := H.out.new (Nat.le_refl _)
      have e1 : ¬ (D w2.heap.size ∨ T w2.heap.size) := H.out.new (Nat.le_of_lt hz2)
      have hok : AllOk D T w4 g p s most [((59 : Nat), #[.pointer (some ⟨w.heap.size, 0, none⟩), .pointer (some ⟨w2.heap.size, 0, none⟩)]), ((61 : Nat), #[Value.pointer (some ⟨w.heap.size, 0, none⟩), .pointer (some ⟨w2.heap.size, 0, none⟩)])] [appendNowP s (recP b), putP (recP b)] :=
        .cons (appNow_step _ _ _ _ _ _ c0 e0 c1 e1 hrec hsz) (.cons (put_step _ _ br 0 cr (recP b) c0 e0 c1 e1 hrec (by rw [HRL.out]; omega) HCR.out) .nil)
      have hdo := do_any _ _ hok.steps h4.refl w3.heap.size 0 2 (by simpa using hw) hlr (fun i hi => by
        have := cells_new (w := w3) (xs := [((59 : Nat), #[.pointer (some ⟨w.heap.size, 0, none⟩), .pointer (some ⟨w2.heap.size, 0, none⟩)]), ((61 : Nat), #[Value.pointer (some ⟨w.heap.size, 0, none⟩), .pointer (some ⟨w2.heap.size, 0, none⟩)])]) i _ (by rw [List.getElem?_map, List.getElem?_eq_getElem hi]; rfl)
        rw [add_plain] at this
        rw [hw4]; exact this) (H.out.new HB13.out.size) (by simp)
      rw [hr] at hdo
      have HDO := Lib.hid hdo
      have HW4 := Lib.hid (show w4 = w3.alloc (.cells #[.func (.func 59) #[] #[.pointer (some ⟨w.heap.size, 0, none⟩), .pointer (some ⟨w2.heap.size, 0, none⟩)], .func (.func 61) #[] #[.pointer (some ⟨w.heap.size, 0, none⟩), .pointer (some ⟨w2.heap.size, 0, none⟩)]] 150) from by rw [hw4]; rfl)
      have HB14 := Lib.hid hb14
      have hz3 : w3.heap.size = w2.heap.size + 1 := by rw [HW3.out]; simp
      have HZ3 := Lib.hid hz3
      clear hdo hok c0 c1 e0 e1 hrec m0 m1 h4 hb14 hb4 hw4 hz2 hr hlong hz3
      go_wp2_with fail
      rw [← HW3.out, ← HW4.out, ← HZ3.out]
      refine HDO.out.mono ?_
      rintro e w5 ⟨rfl, hl5⟩
      have HE := Lib.hid (LT.from HB14.out hl5)
      clear hl5 HDO
      go_wp2
      go_ret
      exact ⟨rfl, HE.out⟩
end
end Go.Proofs.YtibifnknkphanaaGreatDoor

/-
  (*Log).Sync.
-/
namespace Go.Proofs.YtibifnknkphanaaGreatDoor
open Go.RowKit Go.Maps
open DskM WalM
set_option linter.unusedVariables false
set_option linter.unusedSimpArgs false
set_option maxRecDepth 20000
attribute [local go_sem] Oper.semAt_some
section
variable {D T : Nat → Prop} {w : World} {g p : Nat} {s : ByteArray} {most : Int} {S : Ds} {F : List Fp} {L : Lg}
/-- What Sync comes to. -/
def syncL (s : ByteArray) (S : Ds) (F : List Fp) (L : Lg) : Int × Ds × List Fp × Lg :=
  if L.dead = true then (7, S, F, L) else runP [syncNowP s, syncedP] S F L
set_option maxHeartbeats 2000000 in
theorem wsync_any (h : LW D T w g p s most S F L) (hw : S.wr + 2 ≤ 1000000) (hlr : L.recs.length ≤ 1000001) (hsz : s.size ≤ 1000000) {r : Int × Ds × List Fp × Lg} (hr : syncL s S F L = r) :
    Calls Tryz.prog 21 #[.pointer (some ⟨g, 0, none⟩)] w fun e w' => e = .returned (.int .i64 r.1) ∧ LT D T w g p s most r.2.1 r.2.2.1 r.2.2.2 w' := by
  have hmf : ∀ (fn : Fn) (first cap : Array Value) (w : World), (Instr.makeFunc fn first cap).run Tryz.prog w = .ok (.func fn first cap) w := fun _ _ _ _ => rfl
  have H := Lib.hid h
  obtain ⟨w1, hw1⟩ : ∃ w1, w1 = w.alloc (.cells #[.pointer (some ⟨g, 0, none⟩)] 40) := ⟨_, rfl⟩
  have hb1 : Below w.heap.size w w1 := by rw [hw1]; exact al_one w _
  have k0 : Blk w1 w.heap.size 40 #[.pointer (some ⟨g, 0, none⟩)] := by rw [hw1]; exact Blk.new w _ _
  have HW1 := Lib.hid hw1
  have HB1 := Lib.hid hb1
  have HK0 := Lib.hid k0
  unfold syncL at hr
  have h2 : LW D T w1 g p s most S F L := h.below hb1
  obtain ⟨vs, vr, hbg, _⟩ := h2.log
  have HRF := Lib.hid (refuses_any hbg 0)
  have q0 : w1.cell? ⟨w.heap.size, 0, none⟩ = some (.pointer (some ⟨g, 0, none⟩)) := by rw [k0.cell]; rfl
  rw [hw1] at q0
  cases hd : L.dead with
  | true =>
    rw [hd] at hr HRF
    have HE := Lib.hid (LT.from hb1 h2.refl)
    rw [if_pos rfl] at hr
    subst hr
    have hrp : refP 0 true = 7 := rfl
    rw [hrp] at HRF
    clear hd hw1 hb1 k0 h h2 hbg
    go_enter Tryz.func21, Tryz.ntmps21
    go_wp2_with fail
    rw [← HW1.out]
    refine HRF.out.mono ?_
    rintro e wx ⟨rfl, hwx⟩
    rw [hwx]
    clear hwx wx HRF
    go_wp2
    go_ret
    exact ⟨rfl, HE.out⟩
  | false =>
    rw [hd] at hr HRF
    rw [if_neg (by simp)] at hr
    have hrp : refP 0 false = 0 := rfl
    rw [hrp] at HRF
    obtain ⟨w4, hw4⟩ : ∃ w4, w4 = w1.alloc (.cells ([((62 : Nat), #[.pointer (some ⟨w.heap.size, 0, none⟩)]), ((64 : Nat), #[Value.pointer (some ⟨w.heap.size, 0, none⟩)])].map fnV).toArray 150) := ⟨_, rfl⟩
    have hb4 : Below w1.heap.size w1 w4 := by rw [hw4]; exact al_one w1 _
    have hb14 : Below w.heap.size w w4 := HB1.out.trans (hb4.mono HB1.out.size)
    have h4 := h.below hb14
    have m0 : Blk w4 w.heap.size 40 #[.pointer (some ⟨g, 0, none⟩)] := k0.below hb4 k0.lt
    have c0 : w4.cell? ⟨w.heap.size, 0, none⟩ = some (.pointer (some ⟨g, 0, none⟩)) := by rw [m0.cell]; rfl
    have e0 : ¬ (D w.heap.size ∨ T w.heap.size) := h.new (Nat.le_refl _)
    have hok : AllOk D T w4 g p s most [((62 : Nat), #[.pointer (some ⟨w.heap.size, 0, none⟩)]), ((64 : Nat), #[Value.pointer (some ⟨w.heap.size, 0, none⟩)])] [syncNowP s, syncedP] :=
      .cons (syncNow_step _ c0 e0 hsz) (.cons (synced_step _ c0 e0) .nil)
    have hdo := do_any _ _ hok.steps h4.refl w1.heap.size 0 2 (by simpa using hw) hlr (fun i hi => by
      have := cells_new (w := w1) (xs := [((62 : Nat), #[.pointer (some ⟨w.heap.size, 0, none⟩)]), ((64 : Nat), #[Value.pointer (some ⟨w.heap.size, 0, none⟩)])]) i _ (by rw [List.getElem?_map, List.getElem?_eq_getElem hi]; rfl)
      rw [add_plain] at this
      rw [hw4]; exact this) (h.new HB1.out.size) (by simp)
    rw [hr] at hdo
    have HDO := Lib.hid hdo
    have HW4 := Lib.hid (show w4 = w1.alloc (.cells #[.func (.func 62) #[] #[.pointer (some ⟨w.heap.size, 0, none⟩)], .func (.func 64) #[] #[.pointer (some ⟨w.heap.size, 0, none⟩)]] 150) from by rw [hw4]; rfl)
    have HB14 := Lib.hid hb14
    have hz1 : w1.heap.size = w.heap.size + 1 := by rw [hw1]; simp
    have HZ1 := Lib.hid hz1
    clear hd hw1 hb1 k0 h h2 hbg hdo hok c0 e0 m0 h4 hb14 hb4 hw4 hr hz1
    go_enter Tryz.func21, Tryz.ntmps21
    go_wp2_with fail
    rw [← HW1.out]
    refine HRF.out.mono ?_
    rintro e wx ⟨rfl, hwx⟩
    rw [hwx]
    clear hwx wx HRF
    rw [HW1.out]
    go_wp2_with fail
    rw [← HW1.out, ← HW4.out, ← HZ1.out]
    refine HDO.out.mono ?_
    rintro e w5 ⟨rfl, hl5⟩
    have HE := Lib.hid (LT.from HB14.out hl5)
    clear hl5 HDO
    go_wp2
    go_ret
    exact ⟨rfl, HE.out⟩
end
end Go.Proofs.YtibifnknkphanaaGreatDoor

/-
  The steps of removal and of beginning, as lists.
-/
namespace Go.Proofs.YtibifnknkphanaaGreatDoor
open Go.RowKit Go.Maps
open DskM WalM
set_option linter.unusedVariables false
set_option linter.unusedSimpArgs false
set_option maxRecDepth 20000
section
variable {D T : Nat → Prop} {w : World} {g p : Nat} {s : ByteArray} {most : Int}
theorem rem_ok {B c0 : Nat} (hB : ∀ k, B ≤ k → ¬ (D k ∨ T k)) (hsz : s.size ≤ 1000000) : ∀ (cs ns : List Nat), RemAt B w g c0 cs ns → (∀ n ∈ ns, n ≤ 9223372036854775807) → AllOk D T w g p s most (cs.map (remFn c0)) (ns.map (fun n => removeP (seg s.data.toList n)))
  | [], [], _, _ => .nil
  | [], n :: ns, h, _ => absurd h.2.2.1 (by simp)
  | c :: cs, [], h, _ => absurd h.2.2.1 (by simp)
  | c :: cs, n :: ns, h, hn => by
    obtain ⟨h0, h1, h2, h3⟩ := h
    have hc := h3 0 (by simp) (by simp)
    simp only [List.getElem_cons_zero] at hc
    refine .cons (rem_step c0 c n (by rw [h1.cell]; rfl) (hB _ h0) (by rw [hc.2.cell]; rfl) (hB _ hc.1) (hn n (by simp)) hsz) (rem_ok hB hsz cs ns ⟨h0, h1, by simpa using h2, fun i i1 i2 => ?_⟩ (fun m hm => hn m (List.mem_cons_of_mem _ hm)))
    have := h3 (i + 1) (by simp; omega) (by simp; omega)
    simpa using this
theorem beg_ok {B n cl cn cr cf br o c : Nat} {rec : List UInt8} (hB : ∀ k, B ≤ k → ¬ (D k ∨ T k)) (h : BegAt B w g n s (.slice (some ⟨br, o, none⟩) rec.length c) cl cn cr cf)
    (hrec : SlT (fun k => ¬ D k ∧ ¬ T k) w (.slice (some ⟨br, o, none⟩) rec.length c) rec) (h8 : 8 ≤ rec.length) (hc : rec.length ≤ c) (hn : n ≤ 2147483647) :
    AllOk D T w g p s most (begFns cl cn cr cf) [wrP fun S F => appendS S F (segS s n).data.toList rec, wrP fun S F => syncS S F (segS s n).data.toList, beginP n (rec.drop 8)] :=
  .cons (bapp_step cl cf cr (segS s n) _ _ _ rec (by rw [h.bl.2.cell]; rfl) (hB _ h.bl.1) (by rw [h.bf.2.cell]; rfl) (hB _ h.bf.1) (by rw [h.br.2.cell]; rfl) (hB _ h.br.1) hrec)
    (.cons (bsync_step cl cf (segS s n) (by rw [h.bl.2.cell]; rfl) (hB _ h.bl.1) (by rw [h.bf.2.cell]; rfl) (hB _ h.bf.1))
      (.cons (begin_step cn cr cl n br o c rec (by rw [h.bn.2.cell]; rfl) (hB _ h.bn.1) (by rw [h.br.2.cell]; rfl) (hB _ h.br.1) (by rw [h.bl.2.cell]; rfl) (hB _ h.bl.1) hrec h8 hc hn) .nil))
/-- The steps by which a segment is begun. -/
def begStepsP (s : ByteArray) (n : Nat) (rec : List UInt8) : List PStep := [removeP (seg s.data.toList n), wrP fun S F => appendS S F (segS s n).data.toList rec, wrP fun S F => syncS S F (segS s n).data.toList, beginP n (rec.drop 8)]
/-- What Turn comes to. -/
def turnL (s : ByteArray) (S : Ds) (F : List Fp) (L : Lg) (b : List UInt8) : Int × Ds × List Fp × Lg :=
  if 1048576 < b.length then (3, S, F, L) else if L.dead = true then (7, S, F, L) else if L.num = 2147483647 then (5, S, F, L)
  else runP (begStepsP s (L.num + 1) (recP b) ++ [removeP (seg s.data.toList L.num)]) S F L
end
end Go.Proofs.YtibifnknkphanaaGreatDoor

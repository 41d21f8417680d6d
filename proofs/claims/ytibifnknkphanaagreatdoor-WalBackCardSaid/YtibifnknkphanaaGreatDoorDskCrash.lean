/-
  The walk of Crash.
-/
import Derived.Test.YtibifnknkphanaaGreatDoorDskCrM
import Derived.Sort.CutIn
namespace Go.Proofs.YtibifnknkphanaaGreatDoor
open Go.RowKit Go.Maps Go.Shelf
open DskM
set_option linter.unusedVariables false
set_option linter.unusedSimpArgs false
set_option maxRecDepth 100000
attribute [local go_sem] Oper.semAt_some

section
variable {w w' : World} {p m : Nat} {S S' : Ds} {L : List Fo}
set_option maxHeartbeats 8000000 in
theorem crash_any (h : Dk w p m S L) (keep : List Int) (kv : Value) (hk : SlN w kv keep) :
    Calls Tryz.prog 23 #[.pointer (some ⟨p, 0, none⟩), kv] w fun e w' => ∃ p' m' L', e = .returned (.pointer (some ⟨p', 0, none⟩)) ∧ plain L' = crashP keep (plain L) ∧ Dk w' p' m' ⟨S.cap, -1, false, 0⟩ L' ∧ (∀ i, Foot p' m' L' i → w.heap.size ≤ i) ∧ Below w.heap.size w w' := by
  have hfo : Tryz.prog.follows .mixedOrders = true := by kernel_rfl
  obtain ⟨KA, KC, rfl, hkc, hkc2, hka⟩ := hk
  have hk : SlN w (.slice KA keep.length KC) keep := ⟨KA, KC, rfl, hkc, hkc2, hka⟩
  have HK := Lib.hid hk
  have hb0 : Below w.heap.size w ((w.alloc (.cells #[.pointer (some ⟨p, 0, none⟩)] 37)).alloc (.cells #[.slice KA keep.length KC] 35)) := ((Below.refl _ _).alloc (Nat.le_refl _) _).alloc (by simp) _
  have hBd := (Blk.new w 37 #[.pointer (some ⟨p, 0, none⟩)]).alloc (.cells #[.slice KA keep.length KC] 35)
  have hBk := Blk.new (w.alloc (.cells #[.pointer (some ⟨p, 0, none⟩)] 37)) 35 #[.slice KA keep.length KC]
  rw [show (w.alloc (.cells #[.pointer (some ⟨p, 0, none⟩)] 37)).heap.size = w.heap.size + 1 by simp] at hBk
  have hd0 := h.below hb0
  have hn := none_any hd0
  have c0 := hd0.c0
  have hbl := blank_any S.cap ((w.alloc (.cells #[.pointer (some ⟨p, 0, none⟩)] 37)).alloc (.cells #[.slice KA keep.length KC] 35)) h.cap1 h.cap2
  have H := Lib.hid h
  have HB0 := Lib.hid hb0
  have HLT := Lib.hid h.lt
  clear h hk hka hkc
  refine (callsIn_wide (n := 8)).1 ?_
  refine callsIn_of_wp_marks Tryz.func23 rfl trivial ?_ rfl
  simp only [Tryz.ntmps23, List.size_toArray, List.length_cons, List.length_nil, Nat.reduceAdd, Nat.reduceSub, Array.replicate_succ, Array.replicate_zero, List.push_toArray, List.append_toArray, List.nil_append, List.cons_append]
  gi_wp2_with fail
  refine ⟨trivial, (callsIn_wide.2 hn).mono ?_⟩
  rintro e w1 ⟨rfl, rfl⟩
  gi_wp2_with fail
  refine ⟨trivial, (callsIn_wide.2 hbl).mono ?_⟩
  rintro e w2 ⟨c, mc, rfl, hdc, hfc, hb2⟩
  have hBd2 := hBd.below hb2 hBd.lt
  have hBk2 := hBk.below hb2 hBk.lt
  have hb02 := HB0.out.trans (hb2.mono HB0.out.size)
  have hz2 : w.heap.size + 2 ≤ w2.heap.size := by have := hb2.size; simp at this; omega
  have hfc2 : (w.heap.size + 2 ≤ c ∧ c < w2.heap.size) ∧ (w.heap.size + 2 ≤ mc ∧ mc < w2.heap.size) := by
    have h1 := hfc c (.inl rfl)
    have h2 := hfc mc (.inr (.inl rfl))
    have h3 := hdc.lt c (.inl rfl)
    have h4 := hdc.lt mc (.inr (.inl rfl))
    simp at h1 h2
    omega
  obtain ⟨W3, hW3⟩ : ∃ W3, W3 = w2.alloc (.cells #[.pointer (some ⟨c, 0, none⟩)] 37) := ⟨_, rfl⟩
  have hBd3 : Blk W3 w.heap.size 37 #[.pointer (some ⟨p, 0, none⟩)] := by rw [hW3]; exact hBd2.alloc _
  have hBk3 : Blk W3 (w.heap.size + 1) 35 #[.slice KA keep.length KC] := by rw [hW3]; exact hBk2.alloc _
  have hBc3 : Blk W3 w2.heap.size 37 #[.pointer (some ⟨c, 0, none⟩)] := by rw [hW3]; exact Blk.new w2 _ _
  have hb3 : Below w.heap.size w W3 := by rw [hW3]; exact hb02.alloc hb02.size _
  have hz3 : W3.heap.size = w2.heap.size + 1 := by rw [hW3]; simp
  have hdc3 : Dk W3 c mc ⟨S.cap, -1, false, 0⟩ [] := by rw [hW3]; exact hdc.below ((Below.refl _ _).alloc (Nat.le_refl _) _)
  have z0 : W3.cell? ⟨w.heap.size, 0, none⟩ = some (.pointer (some ⟨p, 0, none⟩)) := by rw [hBd3.cell]; rfl
  have hfi := files_any (H.out.below hb3)
  rw [hz3] at hfi
  rw [hW3] at z0 hfi
  have HW3 := Lib.hid hW3
  have HBD := Lib.hid hBd3
  have HBK := Lib.hid hBk3
  have HBC := Lib.hid hBc3
  have HB3 := Lib.hid hb3
  have HZ3 := Lib.hid hz3
  have HC := Lib.hid hdc3
  clear hn hbl hd0 c0 hBd hBk hb0 hdc hb2 hBd2 hBk2 hb02 hW3 hBd3 hBk3 hBc3 hb3 hz3 hdc3 hfc
  gi_wp2_with fail
  refine ⟨trivial, (callsIn_wide.2 hfi).mono ?_⟩
  rintro e w4 ⟨rfl, hnt, hb4⟩
  rw [← HW3.out, ← HZ3.out] at hb4
  have hz4 : w2.heap.size + 1 ≤ w4.heap.size := by have := hb4.size; have := HZ3.out; omega
  have hni := hnt.at (Nat.le_refl _) (Nat.le_succ _)
  have hst := each_stops Fence.wide 7 trivial rfl (by omega) (w2.heap.size + 1) (w2.heap.size + 1 + 1) (w2.heap.size + 1) w4.heap.size (L.map Fo.nm) (L.map fun f => f.bs.length) (by simp) (by simp; exact H.out.few) w4 (Nat.le_refl _) hni
  have HST := Lib.hid hst
  clear hnt hni hst hfi
  gi_wp2_with fail
  have hmid : w.heap.size ≤ w2.heap.size + 1 := by omega
  refine' wpIn_rangeFunc_ownG rfl (by omega) (gf := 89) (lb := #[.pointer (some ⟨w2.heap.size + 1, 0, none⟩), .pointer (some ⟨w2.heap.size + 1 + 1, 0, none⟩)]) rfl trivial (enters_of Tryz.func89 (by kernel_rfl) rfl)
    HST.out (fun {A B C} h k => Mid.trans h k) (Mid.putObj (Nat.le_refl _)) (Below.refl _ _) (fun _ => rfl)
    (CrI w p S L keep w2.heap.size w4.heap.size c mc) (fun _ _ _ => False) (CrI.own (by omega) (by omega)) (fun _ _ _ _ _ hs _ _ => hs) ?h0 _ ?assign ?body ?done ?stop
  case assign =>
    intro l x W K hK
    dsimp only [encE]
    gi_wp2
    exact hK
  case h0 =>
    refine ⟨HB3.out.trans (hb4.mono HB3.out.size), Nat.le_refl _, HBD.out.below hb4 HBD.out.lt, HBC.out.below hb4 HBC.out.lt, .slice KA keep.length KC, keep, [], HBK.out.below hb4 HBK.out.lt, HK.out, HC.out.below hb4, ?_, (fun y hy => by cases hy), fun _ => ⟨rfl, rfl⟩⟩
    rintro i (rfl | rfl | ⟨f, hf, _⟩)
    · exact .inl rfl
    · exact .inr (.inl rfl)
    · cases hf
  case body =>
    intro l pre x W hI hlen
    obtain ⟨hb, hs, b1, b2, kv, ks, L', b3, hkv, hd, hft, hsub, hall⟩ := hI
    obtain ⟨f, hf, hx⟩ := ent_is x
    have hx1 : x.1.1 = f.nm := by rw [hx]
    have hx2 : x.1.2 = f.bs.length := by rw [hx]
    rw [hx1, hx2]
    obtain ⟨s, hsn⟩ : ∃ s : ByteArray, s = ⟨f.nm.toArray⟩ := ⟨_, rfl⟩
    have hsl : s.data.toList = f.nm := by rw [hsn]
    rw [← hsn]
    have hdr := H.out.below hb
    have hfa := hdr.file f hf
    have hss : s.size ≤ maxLen := by
      have h1 := hfa.may
      rw [← hsl] at h1
      have := may_size h1; unfold maxLen; omega
    have hlk := hdr.look s hss
    rw [hsl, find_of_mem hdr.rise hf] at hlk
    simp only [ptrOf] at hlk
    have hkey : keyOf Tryz.prog 9 (.string s) = some (.string f.nm) := by rw [WideMaps.keyOf_string_mk Tryz.underlying9 hss, hsl]
    have q1 := hdr.c1
    have q2 : W.cell? ⟨w.heap.size, 0, none⟩ = some (.pointer (some ⟨p, 0, none⟩)) := by rw [b1.cell]; rfl
    have q3 : W.cell? ⟨w2.heap.size, 0, none⟩ = some (.pointer (some ⟨c, 0, none⟩)) := by rw [b2.cell]; rfl
    have q4 := hfa.c1
    obtain ⟨A, n, cc, hvv⟩ := hfa.row.shape
    have hslv := hfa.row.sl
    rw [hvv] at hslv
    obtain rfl : n = f.bs.length := hslv.len
    have hslF : ∀ X, Below w.heap.size w X → Sl X (.slice A f.bs.length cc) f.bs := fun X hbX => by
      have e := ((H.out.below hbX).file f hf).row.sl
      rw [hvv] at e; exact e
    have hccb : f.bs.length ≤ cc ∧ cc ≤ 9223372036854775807 := by
      obtain ⟨A', c', e', hc', _⟩ := hslv
      refine ⟨by injection e' with _ _ e3; omega, ?_⟩
      rcases hfa.row.2 with ⟨h1, _⟩ | ⟨g, cap, cur, h1, _, _, _, h5, _⟩
      · rw [hvv] at h1; injection h1 with _ _ a3; omega
      · rw [hvv] at h1; injection h1 with _ _ a3; unfold maxLen at h5; omega
    have FACTS := Lib.hid (show ∀ (X : World) (L2 : List Fo), Dk X c mc ⟨S.cap, -1, false, 0⟩ L2 → Below w.heap.size w X → Blk X w2.heap.size 37 #[.pointer (some ⟨c, 0, none⟩)] → X.cell? ⟨w2.heap.size, 0, none⟩ = some (.pointer (some ⟨c, 0, none⟩)) ∧ X.cell? ⟨c, 1, none⟩ = some (.map (some mc)) ∧ X.cell? ⟨f.g, 0, none⟩ = some (.slice A f.bs.length cc) from
      fun X L2 hd hbX hB => ⟨by rw [hB.cell]; rfl, hd.c1, by have e := ((H.out.below hbX).file f hf).c0; rw [hvv] at e; exact e⟩)
    have hlen2 : f.bs.length ≤ 16777216 := H.out.short hf
    have hfla := hfa.la
    have HSL := Lib.hid hslF
    have HKEY := Lib.hid hkey
    have HX0 := Lib.hid hx
    have HM := Lib.hid hf
    have HFA := Lib.hid (And.intro hfa.la hfa.may)
    have HSZ := Lib.hid hs
    have HBDW := Lib.hid b1
    have HFT := Lib.hid hft
    have HSUB := Lib.hid hsub
    have HALL := Lib.hid hall
    have HLEN := Lib.hid hlen2
    have HFEW := Lib.hid (show L'.length < maxLen by have := hd.few; unfold maxLen; omega)
    have HW := Lib.hid (And.intro hb (And.intro b2 hd))
    have HB3' := Lib.hid b3
    have HKV := Lib.hid hkv
    obtain ⟨hccb1, hccb2⟩ := hccb
    have hla0 : (0 : Int) ≤ (f.la : Int) := by omega
    have hle0 : (0 : Int) ≤ (f.bs.length : Int) := by omega
    have hleb : (f.bs.length : Int) ≤ 16777216 := by omega
    have hlab : (f.la : Int) ≤ (f.bs.length : Int) := by omega
    have hw1 : IntKind.i64.wrap ((f.bs.length : Int) - (f.la : Int)) = (f.bs.length : Int) - (f.la : Int) := by rw [IntKind.wrap_i64] <;> omega
    have hccI : (f.bs.length : Int) ≤ (cc : Int) := by omega
    have hlen3 := hlen2
    clear hslF hkey hx hf hs b1 hft hsub hall hb hvv hslv hsl hss hfa hdr hx1 hx2 hd b2 hkv hsn hlen2
    by_cases hl : f.la < f.bs.length
    · have t1 : decide (0 < (f.bs.length : Int) - (f.la : Int)) = true := decide_eq_true (by omega)
      cases ks with
      | nil =>
        have hkz : ∃ KA' KC', kv = .slice KA' 0 KC' := by obtain ⟨KA', KC', e, _⟩ := HKV.out; exact ⟨KA', KC', e⟩
        obtain ⟨KA', KC', rfl⟩ := hkz
        have q5 : W.cell? ⟨w.heap.size + 1, 0, none⟩ = some (.slice KA' 0 KC') := by rw [HB3'.out.cell]; rfl
        have HNN := Lib.hid (show f.la = (keptN f.la f.bs.length []).1 by rw [keptN_nil])
        have HKVX := Lib.hid (show SlN w (.slice KA' 0 KC') (keptN f.la f.bs.length []).2 by rw [keptN_nil]; exact HKV.out)
        have hnl : f.la ≤ f.bs.length := by omega
        have HL := Lib.hid hl
        clear hl b3
        have HKX := Lib.hid (And.intro HW.out.2.2 (And.intro HW.out.1 (And.intro HW.out.2.1 (And.intro (Keep.refl (fun i => i = w.heap.size + 1) W) HB3'.out))))
        gi_upto_region 13 with (fail)
        have hdx : Dk W c mc ⟨S.cap, -1, false, 0⟩ L' := HKX.out.1
        gi_wp2_with fail
        refine wpIn_region_held_round (S := fun X => X.cell? ⟨w2.heap.size, 0, none⟩ = some (.pointer (some ⟨c, 0, none⟩)) ∧ X.cell? ⟨c, 1, none⟩ = some (.map (some mc)) ∧ X.cell? ⟨f.g, 0, none⟩ = some (.slice A f.bs.length cc)) hfo (by kernel_rfl) (fun _ _ h => h) (FACTS.out _ L' (hdx.below (Below.refl _ _).drew) (HKX.out.2.1.trans ((Below.refl _ _).drew.mono HKX.out.2.1.size)) (Blk.drew HKX.out.2.2.1)) (fun hS0 => ?_)
        have hbx : Below w.heap.size w W.drew := HKX.out.2.1.trans ((Below.refl _ _).drew.mono HKX.out.2.1.size)
        have hcx : Blk W.drew w2.heap.size 37 #[.pointer (some ⟨c, 0, none⟩)] := Blk.drew HKX.out.2.2.1
        have hdx2 : Dk W.drew c mc ⟨S.cap, -1, false, 0⟩ L' := hdx.below (Below.refl _ _).drew
        have hkx : Keep (fun i => i = w.heap.size + 1) W W.drew := HKX.out.2.2.2.1.trans (Keep.of_below (S := fun i => i = w.heap.size + 1) (Below.refl _ _).drew) (fun _ h => h) (fun _ _ h => h)
        have hkb : Blk W.drew (w.heap.size + 1) 35 #[Value.slice KA' 0 KC'] := Blk.drew HKX.out.2.2.2.2
        have hzx : w4.heap.size ≤ W.drew.heap.size := Nat.le_trans HSZ.out hkx.size
        have HX := Lib.hid (And.intro hbx (And.intro hcx (And.intro hdx2 (And.intro hkx (And.intro hkb hzx)))))
        have hslx : Sl W.drew (.slice A f.la cc) (f.bs.take f.la) := (HSL.out W.drew hbx).front f.la hnl
        have hcl := dclone_any (.slice A f.la cc) (f.bs.take f.la) W.drew hslx (by rw [List.length_take]; have := HLEN.out; omega)
        have HCL := Lib.hid hcl
        have hnc : (f.la : Int) ≤ (cc : Int) := by omega
        have hn0 : (0 : Int) ≤ (f.la : Int) := by omega
        clear hdx hbx hcx hdx2 hkx hkb hzx hslx hcl
        generalize W.drew = W2 at hS0 HX HCL ⊢
        refine' wpAnyH_take (i := 0) (oi := ⟨some 53, _, _, _, _, _⟩) (v := _) rfl (by kernel_rfl) (by kernel_rfl) (by kernel_rfl) (fun _ _ _ h => h) (Or.inl ⟨by rfl, ?y0a⟩) hS0 ?r0a
        case y0a => (intro w' hSw; obtain ⟨s0, s1, s2'⟩ := hSw; go_simp; try rfl)
        try simp only [Act.put, List.setIfInBounds_toArray, List.set_cons_zero, List.set_cons_succ]
        refine' wpAnyH_take (i := 1) (oi := ⟨some 54, _, _, _, _, _⟩) (v := _) rfl (by kernel_rfl) (by kernel_rfl) (by kernel_rfl) (fun _ _ _ h => h) (Or.inl ⟨by rfl, ?y1a⟩) hS0 ?r1a
        case y1a => (intro w' hSw; obtain ⟨s0, s1, s2'⟩ := hSw; go_simp; try rfl)
        try simp only [Act.put, List.setIfInBounds_toArray, List.set_cons_zero, List.set_cons_succ]
        refine' wpAnyH_take (i := 2) (oi := ⟨some 55, _, _, _, _, _⟩) (v := _) rfl (by kernel_rfl) (by kernel_rfl) (by kernel_rfl) (fun _ _ _ h => h) (Or.inl ⟨by rfl, ?y2a⟩) hS0 ?r2a
        case y2a => (intro w' hSw; obtain ⟨s0, s1, s2'⟩ := hSw; go_simp; try rfl)
        try simp only [Act.put, List.setIfInBounds_toArray, List.set_cons_zero, List.set_cons_succ]
        refine' wpAnyH_take (i := 3) (oi := ⟨some 56, _, _, _, _, _⟩) (v := _) rfl (by kernel_rfl) (by kernel_rfl) (by kernel_rfl) (fun _ _ _ h => h) (Or.inl ⟨by rfl, ?y3a⟩) hS0 ?r3a
        case y3a => (intro w' hSw; obtain ⟨s0, s1, s2'⟩ := hSw; go_simp; try rfl)
        try simp only [Act.put, List.setIfInBounds_toArray, List.set_cons_zero, List.set_cons_succ]
        refine' wpAnyH_take (i := 4) (oi := ⟨some 57, _, _, _, _, _⟩) (v := _) rfl (by kernel_rfl) (by kernel_rfl) (by kernel_rfl) (fun _ _ _ h => h) (Or.inl ⟨by rfl, ?y4a⟩) hS0 ?r4a
        case y4a => (intro w' hSw; obtain ⟨s0, s1, s2'⟩ := hSw; go_simp; try rfl)
        try simp only [Act.put, List.setIfInBounds_toArray, List.set_cons_zero, List.set_cons_succ]
        refine' wpAnyH_take (i := 5) (oi := ⟨some 58, _, _, _, _, _⟩) (v := _) rfl (by kernel_rfl) (by kernel_rfl) (by kernel_rfl) (fun _ _ _ h => h) (Or.inl ⟨by rfl, ?y5a⟩) hS0 ?r5a
        case y5a => (intro w' hSw; obtain ⟨s0, s1, s2'⟩ := hSw; go_simp; try rfl)
        try simp only [Act.put, List.setIfInBounds_toArray, List.set_cons_zero, List.set_cons_succ]
        refine' wpAnyH_take (i := 6) (oi := ⟨some 59, _, _, _, _, _⟩) (v := _) rfl (by kernel_rfl) (by kernel_rfl) (by kernel_rfl) (fun _ _ _ h => h) (Or.inl ⟨by rfl, ?y6a⟩) hS0 ?r6a
        case y6a => (intro w' hSw; obtain ⟨s0, s1, s2'⟩ := hSw; go_simp; try rfl)
        try simp only [Act.put, List.setIfInBounds_toArray, List.set_cons_zero, List.set_cons_succ]
        refine' wpAnyH_take (i := 7) (oi := ⟨some 60, _, _, _, _, _⟩) (v := _) rfl (by kernel_rfl) (by kernel_rfl) (by kernel_rfl) (fun _ _ _ h => h) (Or.inl ⟨by rfl, ?y7a⟩) hS0 ?r7a
        case y7a => (intro w' hSw; obtain ⟨s0, s1, s2'⟩ := hSw; go_simp; try rfl)
        try simp only [Act.put, List.setIfInBounds_toArray, List.set_cons_zero, List.set_cons_succ]
        refine' wpAnyH_take (i := 8) (oi := ⟨some 61, _, _, _, _, _⟩) (v := _) rfl (by kernel_rfl) (by kernel_rfl) (by kernel_rfl) (fun _ _ _ h => h) (Or.inl ⟨by rfl, ?y8a⟩) hS0 ?r8a
        case y8a => (intro w' hSw; obtain ⟨s0, s1, s2'⟩ := hSw; go_simp; try rfl)
        try simp only [Act.put, List.setIfInBounds_toArray, List.set_cons_zero, List.set_cons_succ]
        refine' wpAnyH_take (i := 9) (oi := ⟨some 62, _, _, _, _, _⟩) (v := _) rfl (by kernel_rfl) (by kernel_rfl) (by kernel_rfl) (fun _ _ _ h => h) (Or.inl ⟨by rfl, ?y9a⟩) hS0 ?r9a
        case y9a => (intro w' hSw; obtain ⟨s0, s1, s2'⟩ := hSw; go_simp; try rfl)
        try simp only [Act.put, List.setIfInBounds_toArray, List.set_cons_zero, List.set_cons_succ]
        refine' wpAnyH_take (i := 10) (oi := ⟨some 63, _, _, _, _, _⟩) (v := _) rfl (by kernel_rfl) (by kernel_rfl) (by kernel_rfl) (fun _ _ _ h => h) (Or.inl ⟨by rfl, ?y10a⟩) hS0 ?r10a
        case y10a => (intro w' hSw; obtain ⟨s0, s1, s2'⟩ := hSw; go_simp; try rfl)
        try simp only [Act.put, List.setIfInBounds_toArray, List.set_cons_zero, List.set_cons_succ]
        refine' wpAnyH_take (i := 12) (oi := ⟨some 65, _, _, _, _, _⟩) (v := _) rfl (by kernel_rfl) (by kernel_rfl) (by kernel_rfl) (fun _ _ _ h => h) (Or.inl ⟨by rfl, ?y12a⟩) hS0 ?r12a
        case y12a => (intro w' hSw; obtain ⟨s0, s1, s2'⟩ := hSw; go_simp; try rfl)
        try simp only [Act.put, List.setIfInBounds_toArray, List.set_cons_zero, List.set_cons_succ]
        refine held_one (i := 11) (by kernel_rfl) rfl (fun K hK => ?_)
        go_simp
        refine HCL.out.mono ?_
        rintro e w3 ⟨v3, rfl, ho3, hb3⟩
        obtain ⟨A3, n3, c3, rfl⟩ := ho3.shape
        have hb13 := HX.out.1.trans (hb3.mono HX.out.1.size)
        have hd3 := HX.out.2.2.1.below hb3
        have hS3 := FACTS.out w3 L' hd3 hb13 (HX.out.2.1.below hb3 HX.out.2.1.lt)
        refine hK.out _ _ hS3 (fun _ => ?_)
        clear hK K
        try simp only [Act.put, List.setIfInBounds_toArray, List.set_cons_zero, List.set_cons_succ]
        refine' wpAnyH_take (i := 13) (oi := ⟨some 66, _, _, _, _, _⟩) (v := _) rfl (by kernel_rfl) (by kernel_rfl) (by kernel_rfl) (fun _ _ _ h => h) (Or.inl ⟨by rfl, ?y13a⟩) hS3 ?r13a
        case y13a => (intro w' hSw; obtain ⟨s0, s1, s2'⟩ := hSw; go_simp; try rfl)
        try simp only [Act.put, List.setIfInBounds_toArray, List.set_cons_zero, List.set_cons_succ]
        refine held_one (i := 14) (by kernel_rfl) rfl (fun K hK => ?_)
        go_simp
        have hb4' : Below W2.heap.size W2 (w3.alloc (.cells #[.slice A3 n3 c3, .int .i64 (f.la : Int)] 110)) := hb3.alloc hb3.size _
        have hb14 := HX.out.1.trans (hb4'.mono HX.out.1.size)
        have hd4 := HX.out.2.2.1.below hb4'
        have hc4 := HX.out.2.1.below hb4' HX.out.2.1.lt
        have hS4 := FACTS.out _ L' hd4 hb14 hc4
        have hBf := Blk.new w3 110 #[.slice A3 n3 c3, .int .i64 (f.la : Int)]
        have hof : Own (w3.alloc (.cells #[.slice A3 n3 c3, .int .i64 (f.la : Int)] 110)) W2.heap.size 5 (.slice A3 n3 c3) (f.bs.take f.la) := ho3.alloc _
        have hz3 := hb3.size
        refine hK.out _ _ hS4 (fun _ => ?_)
        clear hK K
        try simp only [Act.put, List.setIfInBounds_toArray, List.set_cons_zero, List.set_cons_succ]
        generalize w3.heap.size = g' at hBf hz3 ⊢
        generalize w3.alloc (.cells #[.slice A3 n3 c3, .int .i64 (f.la : Int)] 110) = W4 at hb4' hb14 hd4 hc4 hS4 hBf hof ⊢
        obtain ⟨W5, hrun, hown5, hgr5⟩ := hd4.map.store strKey Tryz.underlying52 HFEW.out (key := .string s) (kl := .string f.nm) (val := .pointer (some ⟨g', 0, none⟩)) HKEY.out (ptrR_some g')
        have HH := Lib.hid (And.intro hown5 (And.intro hgr5 (And.intro hb4' (And.intro hb14 (And.intro hd4 (And.intro hBf (And.intro hof (And.intro hz3 hc4))))))))
        clear hown5 hgr5 hb4' hb14 hd4 hBf hof hb3 hb13 hd3 ho3 hz3 hc4
        refine held_one (i := 15) (by kernel_rfl) rfl (fun K hK => ?_)
        go_simp
        have hN := crash_end (p := p) (s2 := w2.heap.size) H.out.rise H.out.room H.out.few HM.out HX0.out HFA.out.1 HFA.out.2 hz2 hz4 hfc2.1 hfc2.2 HSZ.out HBDW.out HFT.out HSUB.out HALL.out HX.out.1 HX.out.2.2.2.1 HX.out.2.2.2.2.1 HX.out.2.2.1 HH.out.2.2.1 HH.out.2.2.2.2.1 HH.out.2.2.2.2.2.1 HH.out.2.2.2.2.2.2.1 HH.out.2.2.2.2.2.2.2.1 HH.out.2.2.2.2.2.2.2.2 HH.out.1 HH.out.2.1.grown HNN.out HKVX.out
        have hS5 := FACTS.out W5 _ hN.2.2 hN.2.1.1 hN.2.1.2.2.2.1
        have HN := Lib.hid hN
        clear hN hrun
        refine hK.out _ _ hS5 (fun _ => ?_)
        clear hK K
        try simp only [Act.put, List.setIfInBounds_toArray, List.set_cons_zero, List.set_cons_succ]
        refine wpAnyH_done (by kernel_rfl) ?_ _
        gi_wp2
        exact ⟨HN.out.1.1, HN.out.1.2, HN.out.2.1⟩
      | cons k r =>
        have hkz : ∃ ad o KC', kv = .slice (some ⟨ad, o, none⟩) (r.length + 1) KC' ∧ W.cell? ⟨ad, o, none⟩ = some (.int .i64 k) ∧ r.length + 1 ≤ KC' ∧ KC' ≤ 9223372036854775807 ∧ SlN w (.slice (if KC' = 1 then some ⟨ad, o, none⟩ else some ⟨ad, o + 1, none⟩) r.length (KC' - 1)) r := by
          obtain ⟨KA', KC', e, h1, h2, h3⟩ := HKV.out
          obtain ⟨ad, o, e2, h4⟩ := h3 (by simp)
          subst e2
          refine ⟨ad, o, KC', e, ?_, by simpa using h1, h2, ?_⟩
          · exact (HW.out.1.cell (p := ⟨ad, o, none⟩) (World.block_lt_of_cell? w _ (h4 0 (by simp)))).trans (h4 0 (by simp))
          · have h1' : r.length + 1 ≤ KC' := by simpa using h1
            refine ⟨_, _, rfl, by omega, by omega, fun h0 => ?_⟩
            rw [if_neg (by omega)]
            exact ⟨ad, o + 1, rfl, fun j hj => by have := h4 (j + 1) (by simpa using hj); simp at this; rw [← this]; congr 2; omega⟩
        obtain ⟨ad, o, KC', rfl, q6, hk1, hk2, hkr⟩ := hkz
        have q5 : W.cell? ⟨w.heap.size + 1, 0, none⟩ = some (.slice (some ⟨ad, o, none⟩) (r.length + 1) KC') := by rw [HB3'.out.cell]; rfl
        have q5' := HB3'.out.frozen 0
        have t2 : decide (0 < ((r.length + 1 : Nat) : Int)) = true := decide_eq_true (by omega)
        have hrI : (r.length : Int) + 1 ≤ (KC' : Int) := by omega
        have hr0 : (0 : Int) ≤ (r.length : Int) := by omega
        have hkc : (KC' : Int) ≤ 9223372036854775807 := by omega
        have HKR := Lib.hid hkr
        have HL := Lib.hid hl
        clear hl b3 hkr
        have hnI := keptN_emod HL.out hlen3 k r
        obtain ⟨nn, hnn⟩ : ∃ nn, nn = (keptN f.la f.bs.length (k :: r)).1 := ⟨_, rfl⟩
        rw [← hnn] at hnI
        have hnl : nn ≤ f.bs.length := by rw [hnn]; exact (keptN_le (by omega) _).2
        obtain ⟨kvx, hkvx⟩ : ∃ kvx : Value, kvx = .slice (if KC' = 1 then some ⟨ad, o, none⟩ else some ⟨ad, o + 1, none⟩) r.length (KC' - 1) := ⟨_, rfl⟩
        have HNN := Lib.hid hnn
        have HKVX := Lib.hid (show SlN w kvx (keptN f.la f.bs.length (k :: r)).2 by rw [keptN_cons HL.out, hkvx]; exact HKR.out)
        have HNI := Lib.hid hnI
        have HKX2 := Lib.hid hkvx
        clear hnn hnI hkvx
        gi_upto_region 13 with (fail)
        rw [HNI.out, ← HKX2.out]
        obtain ⟨Wx, hWx⟩ : ∃ Wx, Wx = W.setCell ⟨w.heap.size + 1, 0, none⟩ kvx := ⟨_, rfl⟩
        have hkw : Keep (fun i => i = w.heap.size + 1) W Wx := by rw [hWx]; exact Keep.setCell _ _ _ rfl
        have hb3x : Blk Wx (w.heap.size + 1) 35 #[kvx] := by rw [hWx]; exact HB3'.out.set_ 0 _
        have HKX := Lib.hid (And.intro (HW.out.2.2.kept hkw (fun i hi e => by rcases HFT.out i hi with h | h | h <;> omega)) (And.intro (Keep.below HW.out.1 hkw HW.out.1.size (fun i e => by omega)) (And.intro (HW.out.2.1.kept hkw (fun e => by omega)) (And.intro hkw hb3x))))
        rw [← hWx]
        clear hWx hkw hb3x q1 q2 q3 q4 q5 q6 hlk
        have hdx : Dk Wx c mc ⟨S.cap, -1, false, 0⟩ L' := HKX.out.1
        gi_wp2_with fail
        refine wpIn_region_held_round (S := fun X => X.cell? ⟨w2.heap.size, 0, none⟩ = some (.pointer (some ⟨c, 0, none⟩)) ∧ X.cell? ⟨c, 1, none⟩ = some (.map (some mc)) ∧ X.cell? ⟨f.g, 0, none⟩ = some (.slice A f.bs.length cc)) hfo (by kernel_rfl) (fun _ _ h => h) (FACTS.out _ L' (hdx.below (Below.refl _ _).drew) (HKX.out.2.1.trans ((Below.refl _ _).drew.mono HKX.out.2.1.size)) (Blk.drew HKX.out.2.2.1)) (fun hS0 => ?_)
        have hbx : Below w.heap.size w Wx.drew := HKX.out.2.1.trans ((Below.refl _ _).drew.mono HKX.out.2.1.size)
        have hcx : Blk Wx.drew w2.heap.size 37 #[.pointer (some ⟨c, 0, none⟩)] := Blk.drew HKX.out.2.2.1
        have hdx2 : Dk Wx.drew c mc ⟨S.cap, -1, false, 0⟩ L' := hdx.below (Below.refl _ _).drew
        have hkx : Keep (fun i => i = w.heap.size + 1) W Wx.drew := HKX.out.2.2.2.1.trans (Keep.of_below (S := fun i => i = w.heap.size + 1) (Below.refl _ _).drew) (fun _ h => h) (fun _ _ h => h)
        have hkb : Blk Wx.drew (w.heap.size + 1) 35 #[kvx] := Blk.drew HKX.out.2.2.2.2
        have hzx : w4.heap.size ≤ Wx.drew.heap.size := Nat.le_trans HSZ.out hkx.size
        have HX := Lib.hid (And.intro hbx (And.intro hcx (And.intro hdx2 (And.intro hkx (And.intro hkb hzx)))))
        have hslx : Sl Wx.drew (.slice A nn cc) (f.bs.take nn) := (HSL.out Wx.drew hbx).front nn hnl
        have hcl := dclone_any (.slice A nn cc) (f.bs.take nn) Wx.drew hslx (by rw [List.length_take]; have := HLEN.out; omega)
        have HCL := Lib.hid hcl
        have hnc : (nn : Int) ≤ (cc : Int) := by omega
        have hn0 : (0 : Int) ≤ (nn : Int) := by omega
        clear hdx hbx hcx hdx2 hkx hkb hzx hslx hcl
        generalize Wx.drew = W2 at hS0 HX HCL ⊢
        refine' wpAnyH_take (i := 0) (oi := ⟨some 53, _, _, _, _, _⟩) (v := _) rfl (by kernel_rfl) (by kernel_rfl) (by kernel_rfl) (fun _ _ _ h => h) (Or.inl ⟨by rfl, ?y0b⟩) hS0 ?r0b
        case y0b => (intro w' hSw; obtain ⟨s0, s1, s2'⟩ := hSw; go_simp; try rfl)
        try simp only [Act.put, List.setIfInBounds_toArray, List.set_cons_zero, List.set_cons_succ]
        refine' wpAnyH_take (i := 1) (oi := ⟨some 54, _, _, _, _, _⟩) (v := _) rfl (by kernel_rfl) (by kernel_rfl) (by kernel_rfl) (fun _ _ _ h => h) (Or.inl ⟨by rfl, ?y1b⟩) hS0 ?r1b
        case y1b => (intro w' hSw; obtain ⟨s0, s1, s2'⟩ := hSw; go_simp; try rfl)
        try simp only [Act.put, List.setIfInBounds_toArray, List.set_cons_zero, List.set_cons_succ]
        refine' wpAnyH_take (i := 2) (oi := ⟨some 55, _, _, _, _, _⟩) (v := _) rfl (by kernel_rfl) (by kernel_rfl) (by kernel_rfl) (fun _ _ _ h => h) (Or.inl ⟨by rfl, ?y2b⟩) hS0 ?r2b
        case y2b => (intro w' hSw; obtain ⟨s0, s1, s2'⟩ := hSw; go_simp; try rfl)
        try simp only [Act.put, List.setIfInBounds_toArray, List.set_cons_zero, List.set_cons_succ]
        refine' wpAnyH_take (i := 3) (oi := ⟨some 56, _, _, _, _, _⟩) (v := _) rfl (by kernel_rfl) (by kernel_rfl) (by kernel_rfl) (fun _ _ _ h => h) (Or.inl ⟨by rfl, ?y3b⟩) hS0 ?r3b
        case y3b => (intro w' hSw; obtain ⟨s0, s1, s2'⟩ := hSw; go_simp; try rfl)
        try simp only [Act.put, List.setIfInBounds_toArray, List.set_cons_zero, List.set_cons_succ]
        refine' wpAnyH_take (i := 4) (oi := ⟨some 57, _, _, _, _, _⟩) (v := _) rfl (by kernel_rfl) (by kernel_rfl) (by kernel_rfl) (fun _ _ _ h => h) (Or.inl ⟨by rfl, ?y4b⟩) hS0 ?r4b
        case y4b => (intro w' hSw; obtain ⟨s0, s1, s2'⟩ := hSw; go_simp; try rfl)
        try simp only [Act.put, List.setIfInBounds_toArray, List.set_cons_zero, List.set_cons_succ]
        refine' wpAnyH_take (i := 5) (oi := ⟨some 58, _, _, _, _, _⟩) (v := _) rfl (by kernel_rfl) (by kernel_rfl) (by kernel_rfl) (fun _ _ _ h => h) (Or.inl ⟨by rfl, ?y5b⟩) hS0 ?r5b
        case y5b => (intro w' hSw; obtain ⟨s0, s1, s2'⟩ := hSw; go_simp; try rfl)
        try simp only [Act.put, List.setIfInBounds_toArray, List.set_cons_zero, List.set_cons_succ]
        refine' wpAnyH_take (i := 6) (oi := ⟨some 59, _, _, _, _, _⟩) (v := _) rfl (by kernel_rfl) (by kernel_rfl) (by kernel_rfl) (fun _ _ _ h => h) (Or.inl ⟨by rfl, ?y6b⟩) hS0 ?r6b
        case y6b => (intro w' hSw; obtain ⟨s0, s1, s2'⟩ := hSw; go_simp; try rfl)
        try simp only [Act.put, List.setIfInBounds_toArray, List.set_cons_zero, List.set_cons_succ]
        refine' wpAnyH_take (i := 7) (oi := ⟨some 60, _, _, _, _, _⟩) (v := _) rfl (by kernel_rfl) (by kernel_rfl) (by kernel_rfl) (fun _ _ _ h => h) (Or.inl ⟨by rfl, ?y7b⟩) hS0 ?r7b
        case y7b => (intro w' hSw; obtain ⟨s0, s1, s2'⟩ := hSw; go_simp; try rfl)
        try simp only [Act.put, List.setIfInBounds_toArray, List.set_cons_zero, List.set_cons_succ]
        refine' wpAnyH_take (i := 8) (oi := ⟨some 61, _, _, _, _, _⟩) (v := _) rfl (by kernel_rfl) (by kernel_rfl) (by kernel_rfl) (fun _ _ _ h => h) (Or.inl ⟨by rfl, ?y8b⟩) hS0 ?r8b
        case y8b => (intro w' hSw; obtain ⟨s0, s1, s2'⟩ := hSw; go_simp; try rfl)
        try simp only [Act.put, List.setIfInBounds_toArray, List.set_cons_zero, List.set_cons_succ]
        refine' wpAnyH_take (i := 9) (oi := ⟨some 62, _, _, _, _, _⟩) (v := _) rfl (by kernel_rfl) (by kernel_rfl) (by kernel_rfl) (fun _ _ _ h => h) (Or.inl ⟨by rfl, ?y9b⟩) hS0 ?r9b
        case y9b => (intro w' hSw; obtain ⟨s0, s1, s2'⟩ := hSw; go_simp; try rfl)
        try simp only [Act.put, List.setIfInBounds_toArray, List.set_cons_zero, List.set_cons_succ]
        refine' wpAnyH_take (i := 10) (oi := ⟨some 63, _, _, _, _, _⟩) (v := _) rfl (by kernel_rfl) (by kernel_rfl) (by kernel_rfl) (fun _ _ _ h => h) (Or.inl ⟨by rfl, ?y10b⟩) hS0 ?r10b
        case y10b => (intro w' hSw; obtain ⟨s0, s1, s2'⟩ := hSw; go_simp; try rfl)
        try simp only [Act.put, List.setIfInBounds_toArray, List.set_cons_zero, List.set_cons_succ]
        refine' wpAnyH_take (i := 12) (oi := ⟨some 65, _, _, _, _, _⟩) (v := _) rfl (by kernel_rfl) (by kernel_rfl) (by kernel_rfl) (fun _ _ _ h => h) (Or.inl ⟨by rfl, ?y12b⟩) hS0 ?r12b
        case y12b => (intro w' hSw; obtain ⟨s0, s1, s2'⟩ := hSw; go_simp; try rfl)
        try simp only [Act.put, List.setIfInBounds_toArray, List.set_cons_zero, List.set_cons_succ]
        refine held_one (i := 11) (by kernel_rfl) rfl (fun K hK => ?_)
        go_simp
        refine HCL.out.mono ?_
        rintro e w3 ⟨v3, rfl, ho3, hb3⟩
        obtain ⟨A3, n3, c3, rfl⟩ := ho3.shape
        have hb13 := HX.out.1.trans (hb3.mono HX.out.1.size)
        have hd3 := HX.out.2.2.1.below hb3
        have hS3 := FACTS.out w3 L' hd3 hb13 (HX.out.2.1.below hb3 HX.out.2.1.lt)
        refine hK.out _ _ hS3 (fun _ => ?_)
        clear hK K
        try simp only [Act.put, List.setIfInBounds_toArray, List.set_cons_zero, List.set_cons_succ]
        refine' wpAnyH_take (i := 13) (oi := ⟨some 66, _, _, _, _, _⟩) (v := _) rfl (by kernel_rfl) (by kernel_rfl) (by kernel_rfl) (fun _ _ _ h => h) (Or.inl ⟨by rfl, ?y13b⟩) hS3 ?r13b
        case y13b => (intro w' hSw; obtain ⟨s0, s1, s2'⟩ := hSw; go_simp; try rfl)
        try simp only [Act.put, List.setIfInBounds_toArray, List.set_cons_zero, List.set_cons_succ]
        refine held_one (i := 14) (by kernel_rfl) rfl (fun K hK => ?_)
        go_simp
        have hb4' : Below W2.heap.size W2 (w3.alloc (.cells #[.slice A3 n3 c3, .int .i64 (nn : Int)] 110)) := hb3.alloc hb3.size _
        have hb14 := HX.out.1.trans (hb4'.mono HX.out.1.size)
        have hd4 := HX.out.2.2.1.below hb4'
        have hc4 := HX.out.2.1.below hb4' HX.out.2.1.lt
        have hS4 := FACTS.out _ L' hd4 hb14 hc4
        have hBf := Blk.new w3 110 #[.slice A3 n3 c3, .int .i64 (nn : Int)]
        have hof : Own (w3.alloc (.cells #[.slice A3 n3 c3, .int .i64 (nn : Int)] 110)) W2.heap.size 5 (.slice A3 n3 c3) (f.bs.take nn) := ho3.alloc _
        have hz3 := hb3.size
        refine hK.out _ _ hS4 (fun _ => ?_)
        clear hK K
        try simp only [Act.put, List.setIfInBounds_toArray, List.set_cons_zero, List.set_cons_succ]
        generalize w3.heap.size = g' at hBf hz3 ⊢
        generalize w3.alloc (.cells #[.slice A3 n3 c3, .int .i64 (nn : Int)] 110) = W4 at hb4' hb14 hd4 hc4 hS4 hBf hof ⊢
        obtain ⟨W5, hrun, hown5, hgr5⟩ := hd4.map.store strKey Tryz.underlying52 HFEW.out (key := .string s) (kl := .string f.nm) (val := .pointer (some ⟨g', 0, none⟩)) HKEY.out (ptrR_some g')
        have HH := Lib.hid (And.intro hown5 (And.intro hgr5 (And.intro hb4' (And.intro hb14 (And.intro hd4 (And.intro hBf (And.intro hof (And.intro hz3 hc4))))))))
        clear hown5 hgr5 hb4' hb14 hd4 hBf hof hb3 hb13 hd3 ho3 hz3 hc4
        refine held_one (i := 15) (by kernel_rfl) rfl (fun K hK => ?_)
        go_simp
        have hN := crash_end (p := p) (s2 := w2.heap.size) H.out.rise H.out.room H.out.few HM.out HX0.out HFA.out.1 HFA.out.2 hz2 hz4 hfc2.1 hfc2.2 HSZ.out HBDW.out HFT.out HSUB.out HALL.out HX.out.1 HX.out.2.2.2.1 HX.out.2.2.2.2.1 HX.out.2.2.1 HH.out.2.2.1 HH.out.2.2.2.2.1 HH.out.2.2.2.2.2.1 HH.out.2.2.2.2.2.2.1 HH.out.2.2.2.2.2.2.2.1 HH.out.2.2.2.2.2.2.2.2 HH.out.1 HH.out.2.1.grown HNN.out HKVX.out
        have hS5 := FACTS.out W5 _ hN.2.2 hN.2.1.1 hN.2.1.2.2.2.1
        have HN := Lib.hid hN
        clear hN hrun
        refine hK.out _ _ hS5 (fun _ => ?_)
        clear hK K
        try simp only [Act.put, List.setIfInBounds_toArray, List.set_cons_zero, List.set_cons_succ]
        refine wpAnyH_done (by kernel_rfl) ?_ _
        gi_wp2
        exact ⟨HN.out.1.1, HN.out.1.2, HN.out.2.1⟩
    · have t1 : decide (0 < (f.bs.length : Int) - (f.la : Int)) = false := decide_eq_false (by omega)
      have HNN := Lib.hid (show f.la = (keptN f.la f.bs.length ks).1 by rw [keptN_none hl])
      have HKVX := Lib.hid (show SlN w kv (keptN f.la f.bs.length ks).2 by rw [keptN_none hl]; exact HKV.out)
      have hnl : f.la ≤ f.bs.length := by omega
      have HL := Lib.hid hl
      clear hl b3
      have HKX := Lib.hid (And.intro HW.out.2.2 (And.intro HW.out.1 (And.intro HW.out.2.1 (And.intro (Keep.refl (fun i => i = w.heap.size + 1) W) HB3'.out))))
      gi_upto_region 13 with (fail)
      have hdx : Dk W c mc ⟨S.cap, -1, false, 0⟩ L' := HKX.out.1
      gi_wp2_with fail
      refine wpIn_region_held_round (S := fun X => X.cell? ⟨w2.heap.size, 0, none⟩ = some (.pointer (some ⟨c, 0, none⟩)) ∧ X.cell? ⟨c, 1, none⟩ = some (.map (some mc)) ∧ X.cell? ⟨f.g, 0, none⟩ = some (.slice A f.bs.length cc)) hfo (by kernel_rfl) (fun _ _ h => h) (FACTS.out _ L' (hdx.below (Below.refl _ _).drew) (HKX.out.2.1.trans ((Below.refl _ _).drew.mono HKX.out.2.1.size)) (Blk.drew HKX.out.2.2.1)) (fun hS0 => ?_)
      have hbx : Below w.heap.size w W.drew := HKX.out.2.1.trans ((Below.refl _ _).drew.mono HKX.out.2.1.size)
      have hcx : Blk W.drew w2.heap.size 37 #[.pointer (some ⟨c, 0, none⟩)] := Blk.drew HKX.out.2.2.1
      have hdx2 : Dk W.drew c mc ⟨S.cap, -1, false, 0⟩ L' := hdx.below (Below.refl _ _).drew
      have hkx : Keep (fun i => i = w.heap.size + 1) W W.drew := HKX.out.2.2.2.1.trans (Keep.of_below (S := fun i => i = w.heap.size + 1) (Below.refl _ _).drew) (fun _ h => h) (fun _ _ h => h)
      have hkb : Blk W.drew (w.heap.size + 1) 35 #[kv] := Blk.drew HKX.out.2.2.2.2
      have hzx : w4.heap.size ≤ W.drew.heap.size := Nat.le_trans HSZ.out hkx.size
      have HX := Lib.hid (And.intro hbx (And.intro hcx (And.intro hdx2 (And.intro hkx (And.intro hkb hzx)))))
      have hslx : Sl W.drew (.slice A f.la cc) (f.bs.take f.la) := (HSL.out W.drew hbx).front f.la hnl
      have hcl := dclone_any (.slice A f.la cc) (f.bs.take f.la) W.drew hslx (by rw [List.length_take]; have := HLEN.out; omega)
      have HCL := Lib.hid hcl
      have hnc : (f.la : Int) ≤ (cc : Int) := by omega
      have hn0 : (0 : Int) ≤ (f.la : Int) := by omega
      clear hdx hbx hcx hdx2 hkx hkb hzx hslx hcl
      generalize W.drew = W2 at hS0 HX HCL ⊢
      refine' wpAnyH_take (i := 0) (oi := ⟨some 53, _, _, _, _, _⟩) (v := _) rfl (by kernel_rfl) (by kernel_rfl) (by kernel_rfl) (fun _ _ _ h => h) (Or.inl ⟨by rfl, ?y0c⟩) hS0 ?r0c
      case y0c => (intro w' hSw; obtain ⟨s0, s1, s2'⟩ := hSw; go_simp; try rfl)
      try simp only [Act.put, List.setIfInBounds_toArray, List.set_cons_zero, List.set_cons_succ]
      refine' wpAnyH_take (i := 1) (oi := ⟨some 54, _, _, _, _, _⟩) (v := _) rfl (by kernel_rfl) (by kernel_rfl) (by kernel_rfl) (fun _ _ _ h => h) (Or.inl ⟨by rfl, ?y1c⟩) hS0 ?r1c
      case y1c => (intro w' hSw; obtain ⟨s0, s1, s2'⟩ := hSw; go_simp; try rfl)
      try simp only [Act.put, List.setIfInBounds_toArray, List.set_cons_zero, List.set_cons_succ]
      refine' wpAnyH_take (i := 2) (oi := ⟨some 55, _, _, _, _, _⟩) (v := _) rfl (by kernel_rfl) (by kernel_rfl) (by kernel_rfl) (fun _ _ _ h => h) (Or.inl ⟨by rfl, ?y2c⟩) hS0 ?r2c
      case y2c => (intro w' hSw; obtain ⟨s0, s1, s2'⟩ := hSw; go_simp; try rfl)
      try simp only [Act.put, List.setIfInBounds_toArray, List.set_cons_zero, List.set_cons_succ]
      refine' wpAnyH_take (i := 3) (oi := ⟨some 56, _, _, _, _, _⟩) (v := _) rfl (by kernel_rfl) (by kernel_rfl) (by kernel_rfl) (fun _ _ _ h => h) (Or.inl ⟨by rfl, ?y3c⟩) hS0 ?r3c
      case y3c => (intro w' hSw; obtain ⟨s0, s1, s2'⟩ := hSw; go_simp; try rfl)
      try simp only [Act.put, List.setIfInBounds_toArray, List.set_cons_zero, List.set_cons_succ]
      refine' wpAnyH_take (i := 4) (oi := ⟨some 57, _, _, _, _, _⟩) (v := _) rfl (by kernel_rfl) (by kernel_rfl) (by kernel_rfl) (fun _ _ _ h => h) (Or.inl ⟨by rfl, ?y4c⟩) hS0 ?r4c
      case y4c => (intro w' hSw; obtain ⟨s0, s1, s2'⟩ := hSw; go_simp; try rfl)
      try simp only [Act.put, List.setIfInBounds_toArray, List.set_cons_zero, List.set_cons_succ]
      refine' wpAnyH_take (i := 5) (oi := ⟨some 58, _, _, _, _, _⟩) (v := _) rfl (by kernel_rfl) (by kernel_rfl) (by kernel_rfl) (fun _ _ _ h => h) (Or.inl ⟨by rfl, ?y5c⟩) hS0 ?r5c
      case y5c => (intro w' hSw; obtain ⟨s0, s1, s2'⟩ := hSw; go_simp; try rfl)
      try simp only [Act.put, List.setIfInBounds_toArray, List.set_cons_zero, List.set_cons_succ]
      refine' wpAnyH_take (i := 6) (oi := ⟨some 59, _, _, _, _, _⟩) (v := _) rfl (by kernel_rfl) (by kernel_rfl) (by kernel_rfl) (fun _ _ _ h => h) (Or.inl ⟨by rfl, ?y6c⟩) hS0 ?r6c
      case y6c => (intro w' hSw; obtain ⟨s0, s1, s2'⟩ := hSw; go_simp; try rfl)
      try simp only [Act.put, List.setIfInBounds_toArray, List.set_cons_zero, List.set_cons_succ]
      refine' wpAnyH_take (i := 7) (oi := ⟨some 60, _, _, _, _, _⟩) (v := _) rfl (by kernel_rfl) (by kernel_rfl) (by kernel_rfl) (fun _ _ _ h => h) (Or.inl ⟨by rfl, ?y7c⟩) hS0 ?r7c
      case y7c => (intro w' hSw; obtain ⟨s0, s1, s2'⟩ := hSw; go_simp; try rfl)
      try simp only [Act.put, List.setIfInBounds_toArray, List.set_cons_zero, List.set_cons_succ]
      refine' wpAnyH_take (i := 8) (oi := ⟨some 61, _, _, _, _, _⟩) (v := _) rfl (by kernel_rfl) (by kernel_rfl) (by kernel_rfl) (fun _ _ _ h => h) (Or.inl ⟨by rfl, ?y8c⟩) hS0 ?r8c
      case y8c => (intro w' hSw; obtain ⟨s0, s1, s2'⟩ := hSw; go_simp; try rfl)
      try simp only [Act.put, List.setIfInBounds_toArray, List.set_cons_zero, List.set_cons_succ]
      refine' wpAnyH_take (i := 9) (oi := ⟨some 62, _, _, _, _, _⟩) (v := _) rfl (by kernel_rfl) (by kernel_rfl) (by kernel_rfl) (fun _ _ _ h => h) (Or.inl ⟨by rfl, ?y9c⟩) hS0 ?r9c
      case y9c => (intro w' hSw; obtain ⟨s0, s1, s2'⟩ := hSw; go_simp; try rfl)
      try simp only [Act.put, List.setIfInBounds_toArray, List.set_cons_zero, List.set_cons_succ]
      refine' wpAnyH_take (i := 10) (oi := ⟨some 63, _, _, _, _, _⟩) (v := _) rfl (by kernel_rfl) (by kernel_rfl) (by kernel_rfl) (fun _ _ _ h => h) (Or.inl ⟨by rfl, ?y10c⟩) hS0 ?r10c
      case y10c => (intro w' hSw; obtain ⟨s0, s1, s2'⟩ := hSw; go_simp; try rfl)
      try simp only [Act.put, List.setIfInBounds_toArray, List.set_cons_zero, List.set_cons_succ]
      refine' wpAnyH_take (i := 12) (oi := ⟨some 65, _, _, _, _, _⟩) (v := _) rfl (by kernel_rfl) (by kernel_rfl) (by kernel_rfl) (fun _ _ _ h => h) (Or.inl ⟨by rfl, ?y12c⟩) hS0 ?r12c
      case y12c => (intro w' hSw; obtain ⟨s0, s1, s2'⟩ := hSw; go_simp; try rfl)
      try simp only [Act.put, List.setIfInBounds_toArray, List.set_cons_zero, List.set_cons_succ]
      refine held_one (i := 11) (by kernel_rfl) rfl (fun K hK => ?_)
      go_simp
      refine HCL.out.mono ?_
      rintro e w3 ⟨v3, rfl, ho3, hb3⟩
      obtain ⟨A3, n3, c3, rfl⟩ := ho3.shape
      have hb13 := HX.out.1.trans (hb3.mono HX.out.1.size)
      have hd3 := HX.out.2.2.1.below hb3
      have hS3 := FACTS.out w3 L' hd3 hb13 (HX.out.2.1.below hb3 HX.out.2.1.lt)
      refine hK.out _ _ hS3 (fun _ => ?_)
      clear hK K
      try simp only [Act.put, List.setIfInBounds_toArray, List.set_cons_zero, List.set_cons_succ]
      refine' wpAnyH_take (i := 13) (oi := ⟨some 66, _, _, _, _, _⟩) (v := _) rfl (by kernel_rfl) (by kernel_rfl) (by kernel_rfl) (fun _ _ _ h => h) (Or.inl ⟨by rfl, ?y13c⟩) hS3 ?r13c
      case y13c => (intro w' hSw; obtain ⟨s0, s1, s2'⟩ := hSw; go_simp; try rfl)
      try simp only [Act.put, List.setIfInBounds_toArray, List.set_cons_zero, List.set_cons_succ]
      refine held_one (i := 14) (by kernel_rfl) rfl (fun K hK => ?_)
      go_simp
      have hb4' : Below W2.heap.size W2 (w3.alloc (.cells #[.slice A3 n3 c3, .int .i64 (f.la : Int)] 110)) := hb3.alloc hb3.size _
      have hb14 := HX.out.1.trans (hb4'.mono HX.out.1.size)
      have hd4 := HX.out.2.2.1.below hb4'
      have hc4 := HX.out.2.1.below hb4' HX.out.2.1.lt
      have hS4 := FACTS.out _ L' hd4 hb14 hc4
      have hBf := Blk.new w3 110 #[.slice A3 n3 c3, .int .i64 (f.la : Int)]
      have hof : Own (w3.alloc (.cells #[.slice A3 n3 c3, .int .i64 (f.la : Int)] 110)) W2.heap.size 5 (.slice A3 n3 c3) (f.bs.take f.la) := ho3.alloc _
      have hz3 := hb3.size
      refine hK.out _ _ hS4 (fun _ => ?_)
      clear hK K
      try simp only [Act.put, List.setIfInBounds_toArray, List.set_cons_zero, List.set_cons_succ]
      generalize w3.heap.size = g' at hBf hz3 ⊢
      generalize w3.alloc (.cells #[.slice A3 n3 c3, .int .i64 (f.la : Int)] 110) = W4 at hb4' hb14 hd4 hc4 hS4 hBf hof ⊢
      obtain ⟨W5, hrun, hown5, hgr5⟩ := hd4.map.store strKey Tryz.underlying52 HFEW.out (key := .string s) (kl := .string f.nm) (val := .pointer (some ⟨g', 0, none⟩)) HKEY.out (ptrR_some g')
      have HH := Lib.hid (And.intro hown5 (And.intro hgr5 (And.intro hb4' (And.intro hb14 (And.intro hd4 (And.intro hBf (And.intro hof (And.intro hz3 hc4))))))))
      clear hown5 hgr5 hb4' hb14 hd4 hBf hof hb3 hb13 hd3 ho3 hz3 hc4
      refine held_one (i := 15) (by kernel_rfl) rfl (fun K hK => ?_)
      go_simp
      have hN := crash_end (p := p) (s2 := w2.heap.size) H.out.rise H.out.room H.out.few HM.out HX0.out HFA.out.1 HFA.out.2 hz2 hz4 hfc2.1 hfc2.2 HSZ.out HBDW.out HFT.out HSUB.out HALL.out HX.out.1 HX.out.2.2.2.1 HX.out.2.2.2.2.1 HX.out.2.2.1 HH.out.2.2.1 HH.out.2.2.2.2.1 HH.out.2.2.2.2.2.1 HH.out.2.2.2.2.2.2.1 HH.out.2.2.2.2.2.2.2.1 HH.out.2.2.2.2.2.2.2.2 HH.out.1 HH.out.2.1.grown HNN.out HKVX.out
      have hS5 := FACTS.out W5 _ hN.2.2 hN.2.1.1 hN.2.1.2.2.2.1
      have HN := Lib.hid hN
      clear hN hrun
      refine hK.out _ _ hS5 (fun _ => ?_)
      clear hK K
      try simp only [Act.put, List.setIfInBounds_toArray, List.set_cons_zero, List.set_cons_succ]
      refine wpAnyH_done (by kernel_rfl) ?_ _
      gi_wp2
      exact ⟨HN.out.1.1, HN.out.1.2, HN.out.2.1⟩
  case done =>
    rintro D xs W hD rfl hI hKd
    obtain ⟨hb, hs, b1, b2, kv, ks, L', b3, hkv, hd, hft, hsub, hall⟩ := hI
    have q3 : W.cell? ⟨w2.heap.size, 0, none⟩ = some (.pointer (some ⟨c, 0, none⟩)) := by rw [b2.cell]; rfl
    have hpl : plain L' = crashP keep (plain L) := by
      have h1 := (hall (by show allE L = (allE L).take (allE L).length; rw [List.take_length])).1
      rw [show (((L.map Fo.nm).zip (L.map fun f => f.bs.length)).attach).length = (plain L).length from (allE_len L).trans (plain_len L).symm, List.take_length] at h1
      exact h1
    have hgr := grownBy_putObj' W D (.deferred none)
    have hrow : ∀ r, some D = some r → w4.heap.size ≤ r ∧ ∃ o : Obj, W.heap[r]? = some o ∧ o.isCells = false := fun r e => by injection e with e; subst e; exact ⟨hD, _, hKd, rfl⟩
    have hdN := hd.own hgr hrow (by omega)
    have hbN := hb.grown hgr hb.size (fun k e => by injection e with e; omega)
    have hftN : ∀ i, Foot c mc L' i → w.heap.size ≤ i := fun i hi => by rcases hft i hi with h | h | h <;> omega
    have HE := Lib.hid (And.intro hpl (And.intro hdN (And.intro hftN hbN)))
    clear hb hs b1 b2 b3 hkv hd hft hsub hall hpl hgr hrow hdN hbN hftN
    gi_wp2
    refine ⟨by simp, .inl ⟨_, _, rfl, run_takeDeferred hKd, ?_⟩⟩
    exact ⟨_, results_tmp rfl _ _ _, c, mc, L', rfl, HE.out.1, HE.out.2.1, HE.out.2.2.1, HE.out.2.2.2⟩
  case stop =>
    intro D c pre W hD _ h _
    exact h.elim
end
end Go.Proofs.YtibifnknkphanaaGreatDoor

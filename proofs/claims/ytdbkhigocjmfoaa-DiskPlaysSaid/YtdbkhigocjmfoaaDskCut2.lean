/-
  The walk of Cut, in all its ways; Fuse.
-/
import Derived.Test.YtdbkhigocjmfoaaDskCut
namespace Go.Proofs.Ytdbkhigocjmfoaa
open Go.RowKit Go.Maps
open DskM
set_option linter.unusedVariables false
set_option linter.unusedSimpArgs false
set_option maxRecDepth 20000

section
variable {w w' W : World} {p m : Nat} {S S' : Ds} {L : List Fo}
set_option maxHeartbeats 4000000 in
theorem cut_any (h : Dk w p m S L) (hw : S.wr ≤ 1000000) (s : ByteArray) (n : Int) :
    Calls Try.prog 34 #[.pointer (some ⟨p, 0, none⟩), .string s, .int .i64 n] w (Res w p m L (cutS S (plain L) s.data.toList n)) := by
  unfold cutS
  have hb0 : Below w.heap.size w (w.alloc (.cells #[.int .i64 n] 3)) := (Below.refl _ _).alloc (Nat.le_refl _) _
  have hB1 := Blk.new w 3 #[.int .i64 n]
  have h0 := h.below hb0
  have HB0 := Lib.hid hb0
  by_cases hmk : mayB s.data.toList = true ∧ 0 ≤ n
  · rw [if_pos hmk]
    obtain ⟨hm, hn⟩ := hmk
    obtain ⟨k, rfl⟩ : ∃ k : Nat, n = (k : Int) := ⟨n.toNat, by omega⟩
    have hnd : decide ((0 : Int) ≤ (k : Int)) = true := decide_eq_true hn
    rw [find_plain]
    cases hf : find L s.data.toList with
    | none =>
      have hfi := find_lacks h0 s hm hf
      have H := Lib.hid h
      clear h hm hf h0 hB1 hb0 hn
      go_enter Try.func34, Try.ntmps34
      go_wp2_with fail
      refine hfi.mono ?_
      rintro e w1 ⟨rfl, hb1⟩
      have HB1 := Lib.hid (HB0.out.trans (hb1.mono HB0.out.size))
      clear hfi hb1
      go_wp2
      go_ret
      exact ⟨rfl, .same H.out (HB1.out.alloc HB1.out.size _)⟩
    | some f =>
      show Calls _ _ _ _ (Res w p m L (if (f.bs.length : Int) < (k : Int) then (2, S, plain L) else writeS S (setP (plain L) (f.nm, f.bs.take (k : Int).toNat, min f.la (k : Int).toNat)) (plain L) (plain L)))
      rw [Int.toNat_natCast]
      by_cases hlt : (f.bs.length : Int) < (k : Int)
      · rw [if_pos hlt]
        have HLTT := Lib.hid hlt
        clear hlt
        have hfi := find_there h0 s hm f hf
        obtain ⟨hfm, hnm⟩ := find_mem hf
        have H := Lib.hid h
        have HW := Lib.hid hw
        have HM := Lib.hid hfm
        have hpl := h.blk.lt
        clear h hm hf hw h0 hb0 hn hfm hnm
        go_enter Try.func34, Try.ntmps34
        go_wp2_with fail
        refine hfi.mono ?_
        rintro e w1 ⟨rfl, hb1⟩
        clear hfi
        have hb2 : Below w.heap.size w (w1.alloc (.cells #[.pointer (some ⟨f.g, 0, none⟩)] 75)) := (HB0.out.trans (hb1.mono HB0.out.size)).alloc (by have := hb1.size; have := HB0.out.size; omega) _
        have hC1 := (hB1.below hb1 hB1.lt).alloc (.cells #[.pointer (some ⟨f.g, 0, none⟩)] 75)
        have hC4 := Blk.new w1 75 #[.pointer (some ⟨f.g, 0, none⟩)]
        have hgz : w.heap.size ≤ w1.heap.size := (HB0.out.trans (hb1.mono HB0.out.size)).size
        clear hB1 hb1
        go_wp2_with fail
        generalize w1.heap.size = g at hC4 hgz ⊢
        generalize w1.alloc (.cells #[.pointer (some ⟨f.g, 0, none⟩)] 75) = W1 at hb2 hC1 hC4 ⊢
        have hd1 := H.out.below hb2
        have hfa := hd1.file f HM.out
        have c1 : W1.cell? ⟨w.heap.size, 0, none⟩ = some (.int .i64 (k : Int)) := by rw [hC1.cell]; rfl
        have c2 : W1.cell? ⟨g, 0, none⟩ = some (.pointer (some ⟨f.g, 0, none⟩)) := by rw [hC4.cell]; rfl
        have c3 := hfa.c0
        obtain ⟨A, q, c, hvv⟩ := hfa.row.shape
        rw [hvv] at c3
        obtain rfl : q = f.bs.length := by have := hfa.row.sl; rw [hvv] at this; exact this.len
        have HC := Lib.hid (And.intro hC1 hC4)
        have HD1 := Lib.hid hd1
        have hpz := hb2.size
        clear hvv hfa hC1 hC4 hd1
        have hld : decide ((f.bs.length : Int) < (k : Int)) = true := decide_eq_true HLTT.out
        have hld2 : f.bs.length < k := by have := HLTT.out; omega
        go_quiet (fail)
        have HB3 := Lib.hid (below_drewN hb2 nq)
        clear c1 c2 c3 hb2
        go_wp2
        go_ret
        exact ⟨rfl, .same H.out HB3.out⟩
      · rw [if_neg hlt]
        have HLTT := Lib.hid hlt
        clear hlt
        have hfi := find_there h0 s hm f hf
        obtain ⟨hfm, hnm⟩ := find_mem hf
        have H := Lib.hid h
        have HW := Lib.hid hw
        have HM := Lib.hid hfm
        have hpl := h.blk.lt
        clear h hm hf hw h0 hb0 hn hfm hnm
        go_enter Try.func34, Try.ntmps34
        go_wp2_with fail
        refine hfi.mono ?_
        rintro e w1 ⟨rfl, hb1⟩
        clear hfi
        have hb2 : Below w.heap.size w (w1.alloc (.cells #[.pointer (some ⟨f.g, 0, none⟩)] 75)) := (HB0.out.trans (hb1.mono HB0.out.size)).alloc (by have := hb1.size; have := HB0.out.size; omega) _
        have hC1 := (hB1.below hb1 hB1.lt).alloc (.cells #[.pointer (some ⟨f.g, 0, none⟩)] 75)
        have hC4 := Blk.new w1 75 #[.pointer (some ⟨f.g, 0, none⟩)]
        have hgz : w.heap.size ≤ w1.heap.size := (HB0.out.trans (hb1.mono HB0.out.size)).size
        clear hB1 hb1
        go_wp2_with fail
        generalize w1.heap.size = g at hC4 hgz ⊢
        generalize w1.alloc (.cells #[.pointer (some ⟨f.g, 0, none⟩)] 75) = W1 at hb2 hC1 hC4 ⊢
        have hd1 := H.out.below hb2
        have hfa := hd1.file f HM.out
        have c1 : W1.cell? ⟨w.heap.size, 0, none⟩ = some (.int .i64 (k : Int)) := by rw [hC1.cell]; rfl
        have c2 : W1.cell? ⟨g, 0, none⟩ = some (.pointer (some ⟨f.g, 0, none⟩)) := by rw [hC4.cell]; rfl
        have c3 := hfa.c0
        obtain ⟨A, q, c, hvv⟩ := hfa.row.shape
        rw [hvv] at c3
        obtain rfl : q = f.bs.length := by have := hfa.row.sl; rw [hvv] at this; exact this.len
        have HC := Lib.hid (And.intro hC1 hC4)
        have HD1 := Lib.hid hd1
        have hpz := hb2.size
        clear hvv hfa hC1 hC4 hd1
        have hld : decide ((f.bs.length : Int) < (k : Int)) = false := decide_eq_false (by have := HLTT.out; omega)
        have hld2 : ¬ f.bs.length < k := by have := HLTT.out; omega
        have hle : k ≤ f.bs.length := by have := HLTT.out; omega
        have HLE := Lib.hid hle
        clear hle
        go_quiet (fail)
        have hb3 := below_drewN hb2 nq
        have hd3 : Dk (W1.drewN nq) p m S L := HD1.out.below (below_drewN (Below.refl _ _) nq)
        have hC1 : Blk (W1.drewN nq) w.heap.size 3 #[.int .i64 (k : Int)] := HC.out.1.drewN nq
        have hC4 : Blk (W1.drewN nq) g 75 #[.pointer (some ⟨f.g, 0, none⟩)] := HC.out.2.drewN nq
        clear c1 c2 c3 hb2
        generalize W1.drewN nq = W3 at hb3 hd3 hC1 hC4 ⊢
        have hz3 := hb3.size
        have hwr := write_any (B := w.heap.size) hd3 HW.out 58 56 #[.pointer (some ⟨g, 0, none⟩), .pointer (some ⟨w.heap.size, 0, none⟩)] #[] (setP (plain L) (f.nm, f.bs.take k, min f.la k)) (plain L)
          (enters_of Try.func58 (by kernel_rfl) rfl) enters_nothing
          (fun W hd hk hz => cut1_any g w.heap.size k _ f HM.out hd (hC4.kept hk (by omega)) (hC1.kept hk (by omega)) HLE.out (by omega) rfl)
          (fun W hd _ _ => nothing_turn W _ hd)
        have HWR := Lib.hid hwr
        have HB := Lib.hid hb3
        clear hwr hC1 hC4 hd3 hb3
        go_wp2_with fail
        refine HWR.out.mono ?_
        rintro e w5 ⟨rfl, ht⟩
        have HT := Lib.hid ht
        clear ht HWR
        generalize (writeS S (setP (plain L) (f.nm, f.bs.take k, min f.la k)) (plain L) (plain L)) = r at *
        go_wp2_with fail
        go_ret
        exact ⟨rfl, HT.out.from HB.out⟩
  · rw [if_neg hmk]
    obtain ⟨q, hq⟩ : ∃ q : Bool, q = decide (0 ≤ n) := ⟨_, rfl⟩
    have hnd : decide (0 ≤ n) = q := hq.symm
    have hfi := find_bad h0 s q (by rw [hq, decide_eq_true_iff]; exact hmk)
    have H := Lib.hid h
    clear h h0 hB1 hb0 hmk hq
    go_enter Try.func34, Try.ntmps34
    go_wp2_with fail
    refine hfi.mono ?_
    rintro e w1 ⟨rfl, hb1⟩
    have HB1 := Lib.hid (HB0.out.trans (hb1.mono HB0.out.size))
    clear hfi hb1
    go_wp2
    go_ret
    exact ⟨rfl, .same H.out (HB1.out.alloc HB1.out.size _)⟩

/-- What Fuse leaves. -/
def fuseS (S : Ds) (n : Int) : Ds := if S.dead = true then S else { S with fuse := n }
theorem fuse_any (h : Dk w p m S L) (n : Int) (h1 : -9223372036854775808 ≤ n) (h2 : n ≤ 9223372036854775807) :
    Calls Try.prog 33 #[.pointer (some ⟨p, 0, none⟩), .int .i64 n] w fun e w' => e = .returned (.tuple #[]) ∧ Dk w' p m (fuseS S n) L ∧ Keep (fun i => i = p) w w' ∧ w'.heap.size = w.heap.size := by
  have hn := none_any h
  have h3 := h.c3
  have c2 := h.c2
  have f2 := h.blk.frozen 2
  unfold fuseS
  cases hd : S.dead with
  | true =>
    rw [hd] at h3
    rw [if_pos rfl]
    have H := Lib.hid h
    clear h hd
    go_enter Try.func33, Try.ntmps33
    go_wp2_with fail
    refine hn.mono ?_
    rintro e w1 ⟨rfl, rfl⟩
    clear hn
    go_wp2
    refine bodyPost_ret (results_none rfl _ _ _) rfl ?_
    exact ⟨rfl, H.out, .refl _ _, rfl⟩
  | false =>
    rw [hd] at h3
    rw [if_neg (by simp)]
    have hT := h.at2 n h1 h2
    rw [hd] at hT
    have HT := Lib.hid hT
    clear hT
    have HK := Lib.hid (Keep.setCell (S := fun i => i = p) w ⟨p, 2, none⟩ (.int .i64 n) rfl)
    clear h hd h1 h2
    go_enter Try.func33, Try.ntmps33
    go_wp2_with fail
    refine hn.mono ?_
    rintro e w1 ⟨rfl, rfl⟩
    clear hn
    go_wp2
    go_end0
    exact ⟨rfl, HT.out, HK.out, by simp [World.setCell]⟩
end
end Go.Proofs.Ytdbkhigocjmfoaa

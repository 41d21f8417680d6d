/-
  The document's Same.
-/
import Derived.Test.YtdbkhigocjmfoaaDskRefY
namespace Go.Proofs.Ytdbkhigocjmfoaa
open Go.RowKit
open DskM
set_option linter.unusedVariables false
set_option linter.unusedSimpArgs false
set_option maxRecDepth 20000
attribute [local go_sem] Oper.semAt_some
section
variable {w w' : World} {q q2 : Nat} {v v2 : Value} {S S2 : Ds} {R R2 : List Fr}
def sameQ (S S2 : Ds) (F F2 : List Fp) : Bool := decide (S.cap = S2.cap ∧ F = F2)
theorem pl_ext (hl : R.length = R2.length) (h : ∀ j (h1 : j < R.length) (h2 : j < R2.length), R[j].p = R2[j].p) : pl R = pl R2 := by
  refine List.ext_getElem (by rw [pl_len, pl_len, hl]) (fun j h1 h2 => ?_)
  rw [pl_get, pl_get]
  exact h j _ _
theorem pl_ne {k : Nat} (h1 : k < R.length) (h2 : k < R2.length) (h : R[k].p ≠ R2[k].p) : pl R ≠ pl R2 := fun e => h (by
  have e1 : (pl R)[k]? = (pl R2)[k]? := by rw [e]
  rw [List.getElem?_eq_getElem (by rw [pl_len]; exact h1), List.getElem?_eq_getElem (by rw [pl_len]; exact h2), pl_get, pl_get] at e1
  exact Option.some.inj e1)
/-- A file's cells, wherever the row stands. -/
theorem Rd.fileOf (h : Rd w q v S R) {A : Option Addr} {c : Nat} (hv : v = .slice A R.length c) {k : Nat} (hk : k < R.length) {f : Fr} (hf : R[k] = f) :
    ∃ g A1 c1 sn, A = some ⟨g, 0, none⟩ ∧ f.v = .slice A1 f.bs.length c1 ∧ sn.data.toList = f.nm ∧ w.cell? ⟨g, k * 3, none⟩ = some (.string sn) ∧ w.cell? ⟨g, k * 3 + 1, none⟩ = some (.slice A1 f.bs.length c1) ∧ w.cell? ⟨g, k * 3 + 2, none⟩ = some (.int .i64 (f.la : Int)) ∧ Own w 0 5 (.slice A1 f.bs.length c1) f.bs := by
  obtain ⟨g, c9, hv9, _⟩ := h.row.form (by omega)
  have ho := h.byt f (hf ▸ List.getElem_mem hk)
  rw [hv9] at h
  obtain ⟨A1, c1, eV, hbV, y0, y1, y2, y3, _⟩ := h.fileIs hk hf
  rw [hv9] at hv
  injection hv with a1 a2 a3
  rw [eV] at ho
  exact ⟨g, A1, c1, ⟨f.nm.toArray⟩, a1.symm, eV, rfl, y1, y2, y3, ho⟩
set_option maxHeartbeats 8000000 in
theorem refSame_any (h : Rd w q v S R) (h2 : Rd w q2 v2 S2 R2) (hl : R.length ≤ 64) (hl2 : R2.length ≤ 64) :
    Calls Try.prog 17 #[.pointer (some ⟨q, 0, none⟩), .pointer (some ⟨q2, 0, none⟩)] w fun e w' => e = .returned (.bool (sameQ S S2 (pl R) (pl R2))) ∧ Below w.heap.size w w' := by
  have hfo : Try.prog.follows .mixedOrders = true := by kernel_rfl
  obtain ⟨A, c, hv, hc1, hc2⟩ := h.row.shape
  obtain ⟨B, d, hv2, hd1, hd2⟩ := h2.row.shape
  have q0 := h.c0
  have q1 := h.c1
  have p0 := h2.c0
  have p1 := h2.c1
  rw [hv] at q0
  rw [hv2] at p0
  have H := Lib.hid h
  have H2 := Lib.hid h2
  have HV := Lib.hid hv
  have HV2 := Lib.hid hv2
  have HL := Lib.hid (And.intro hl hl2)
  clear h h2 hv hv2
  by_cases hcap : S.cap = S2.cap
  · have hcI : ((S.cap : Int) != (S2.cap : Int)) = false := by simp [hcap]
    have hcN : (S.cap != S2.cap) = false := by simp [hcap]
    have hcB : ((S.cap : Int) == (S2.cap : Int)) = true := by simp [hcap]
    have hcBN : (S.cap == S2.cap) = true := by simp [hcap]
    by_cases hlen : R.length = R2.length
    · have hlI : ((R.length : Int) != (R2.length : Int)) = false := by simp [hlen]
      have hlN : (R.length != R2.length) = false := by simp [hlen]
      have hlB : ((R.length : Int) == (R2.length : Int)) = true := by simp [hlen]
      have hlBN : (R.length == R2.length) = true := by simp [hlen]
      have HCE := Lib.hid (And.intro hcap hlen)
      clear hcap hlen hl hl2
      go_enter Try.func17, Try.ntmps17
      go_wp2_with fail
      go_quiet (fail)
      have hbq : Below w.heap.size w (w.drewN nq) := below_drewN (Below.refl _ _) _
      clear q0 q1 p0 p1 hcI hcN hcB hcBN hlI hlN hlB hlBN
      generalize w.drewN nq = W at hbq ⊢
      have HBQ := Lib.hid hbq
      clear hbq
      go_wp2_with fail
      go_loopw [5] (fun z wr => ∃ k : Nat, k ≤ R.length ∧ z = .int .i64 (k : Int) ∧ Below w.heap.size w wr ∧ ∀ j (h1 : j < R.length) (h2 : j < R2.length), j < k → R[j].p = R2[j].p) (fun z _ => R.length - (intOf z).toNat)
      case atStart => exact ⟨0, Nat.zero_le _, rfl, HBQ.out, fun j h1 h2 h => absurd h (by omega)⟩
      case round =>
        obtain ⟨k, hk, rfl, hbr, hall⟩ := hrel
        have HBR := Lib.hid hbr
        have HALL := Lib.hid hall
        have hk0 : (0 : Int) ≤ (k : Int) := by omega
        have x0 : wr.cell? ⟨q, 0, none⟩ = some (.slice A R.length c) := by have := (H.out.below HBR.out).c0; rw [HV.out] at this; exact this
        have z0 : wr.cell? ⟨q2, 0, none⟩ = some (.slice B R2.length d) := by have := (H2.out.below HBR.out).c0; rw [HV2.out] at this; exact this
        clear hbr hall
        by_cases hlt : k < R.length
        · have hlt2 : k < R2.length := by have := HCE.out.2; omega
          have hltI : (k : Int) < (R.length : Int) := by omega
          have hltI2 : (k : Int) < (R2.length : Int) := by omega
          have h64 : (k : Int) < 64 := by have := HL.out; omega
          obtain ⟨f, hf⟩ : ∃ f, R[k] = f := ⟨_, rfl⟩
          obtain ⟨f2, hf2⟩ : ∃ f2, R2[k] = f2 := ⟨_, rfl⟩
          obtain ⟨g, A1, c1, sn, rfl, eV, hsn, y1, y2, y3, ho⟩ := (H.out.below HBR.out).fileOf HV.out hlt hf
          obtain ⟨g2, A2, c2, sn2, rfl, eV2, hsn2, u1, u2, u3, ho2⟩ := (H2.out.below HBR.out).fileOf HV2.out hlt2 hf2
          have k1 : ∀ n, (convert 38 9 (.slice A1 f.bs.length c1)).run Try.prog (wr.drewN n) = .ok (.string ⟨f.bs.toArray⟩) (wr.drewN n) := fun n => (ho.sl.drewN n).conv Try.underlying38 Try.underlying5 Try.underlying9
          have k2 : ∀ n, (convert 38 9 (.slice A2 f2.bs.length c2)).run Try.prog (wr.drewN n) = .ok (.string ⟨f2.bs.toArray⟩) (wr.drewN n) := fun n => (ho2.sl.drewN n).conv Try.underlying38 Try.underlying5 Try.underlying9
          obtain ⟨b1, hb1⟩ : ∃ b1 : ByteArray, b1 = ⟨f.bs.toArray⟩ := ⟨_, rfl⟩
          obtain ⟨b2, hb2⟩ : ∃ b2 : ByteArray, b2 = ⟨f2.bs.toArray⟩ := ⟨_, rfl⟩
          rw [← hb1] at k1
          rw [← hb2] at k2
          have HLT := Lib.hid (And.intro hlt hlt2)
          have HFF := Lib.hid (show R[k]'(HLT.out.1) = f ∧ R2[k]'(HLT.out.2) = f2 from ⟨hf, hf2⟩)
          have HSN := Lib.hid (And.intro hsn hsn2)
          have HBB := Lib.hid (show b1.data.toList = f.bs ∧ b2.data.toList = f2.bs by rw [hb1, hb2]; exact ⟨rfl, rfl⟩)
          clear ho ho2 eV eV2 hb1 hb2 hsn hsn2 hf hf2
          by_cases hn : f.nm = f2.nm
          · have n1 : (sn.toList == sn2.toList) = true := by rw [beq_iff_eq, ByteArray.toList_eq, ByteArray.toList_eq, HSN.out.1, HSN.out.2, hn]
            have n2 : (sn.toList != sn2.toList) = false := by simp [bne, n1]
            by_cases hb : f.bs = f2.bs
            · have m1 : (b1.toList == b2.toList) = true := by rw [beq_iff_eq, ByteArray.toList_eq, ByteArray.toList_eq, HBB.out.1, HBB.out.2, hb]
              have m2 : (b1.toList != b2.toList) = false := by simp [bne, m1]
              by_cases hla : f.la = f2.la
              · have l1 : (f.la != f2.la) = false := by simp [hla]
                have l2 : ((f.la : Int) != (f2.la : Int)) = false := by simp [hla]
                have l3 : (f.la == f2.la) = true := by simp [hla]
                have l4 : ((f.la : Int) == (f2.la : Int)) = true := by simp [hla]
                have HEQ := Lib.hid (show f.p = f2.p by unfold Fr.p; rw [hn, hb, hla])
                clear hn hb hla
                go_wp2_with fail
                go_quiet (fail)
                have hbx : Below w.heap.size w (wr.drewN nq) := below_drewN HBR.out _
                go_wp2
                go_round
                case rel =>
                  refine ⟨k + 1, HLT.out.1, by go_num, hbx, fun j h1 h2 hjk => ?_⟩
                  rcases Nat.lt_or_ge j k with h | h
                  · exact HALL.out j h1 h2 h
                  · obtain rfl : j = k := by omega
                    exact (congrArg Fr.p HFF.out.1).trans (HEQ.out.trans (congrArg Fr.p HFF.out.2.symm))
                case measure => simp [intOf]; omega
              · have l1 : (f.la != f2.la) = true := by simp; omega
                have l2 : ((f.la : Int) != (f2.la : Int)) = true := by simp; omega
                have l3 : (f.la == f2.la) = false := by rw [beq_eq_false_iff_ne]; omega
                have l4 : ((f.la : Int) == (f2.la : Int)) = false := by rw [beq_eq_false_iff_ne]; omega
                have hne : f.p ≠ f2.p := fun e => hla (congrArg (fun x => x.2.2) e)
                have HR := Lib.hid (show sameQ S S2 (pl R) (pl R2) = false from decide_eq_false (fun e => pl_ne HLT.out.1 HLT.out.2 (fun e9 => hne ((congrArg Fr.p HFF.out.1).symm.trans (e9.trans (congrArg Fr.p HFF.out.2)))) e.2))
                clear hne hn hb hla
                go_wp2_with fail
                go_quiet (fail)
                have hbx : Below w.heap.size w (wr.drewN nq) := below_drewN HBR.out _
                go_wp2
                go_ret
                exact ⟨ret_b HR.out.symm, hbx⟩
            · have m1 : (b1.toList == b2.toList) = false := by rw [beq_eq_false_iff_ne, ByteArray.toList_eq, ByteArray.toList_eq, HBB.out.1, HBB.out.2]; exact hb
              have m2 : (b1.toList != b2.toList) = true := by simp [bne, m1]
              have hne : f.p ≠ f2.p := fun e => hb (congrArg (fun x => x.2.1) e)
              have HR := Lib.hid (show sameQ S S2 (pl R) (pl R2) = false from decide_eq_false (fun e => pl_ne HLT.out.1 HLT.out.2 (fun e9 => hne ((congrArg Fr.p HFF.out.1).symm.trans (e9.trans (congrArg Fr.p HFF.out.2)))) e.2))
              clear hne hn hb
              go_wp2_with fail
              go_quiet (fail)
              have hbx : Below w.heap.size w (wr.drewN nq) := below_drewN HBR.out _
              go_wp2
              go_ret
              exact ⟨ret_b HR.out.symm, hbx⟩
          · have n1 : (sn.toList == sn2.toList) = false := by rw [beq_eq_false_iff_ne, ByteArray.toList_eq, ByteArray.toList_eq, HSN.out.1, HSN.out.2]; exact hn
            have n2 : (sn.toList != sn2.toList) = true := by simp [bne, n1]
            have hne : f.p ≠ f2.p := fun e => hn (congrArg (fun x => x.1) e)
            have HR := Lib.hid (show sameQ S S2 (pl R) (pl R2) = false from decide_eq_false (fun e => pl_ne HLT.out.1 HLT.out.2 (fun e9 => hne ((congrArg Fr.p HFF.out.1).symm.trans (e9.trans (congrArg Fr.p HFF.out.2)))) e.2))
            clear hne hn
            go_wp2_with fail
            go_quiet (fail)
            have hbx : Below w.heap.size w (wr.drewN nq) := below_drewN HBR.out _
            go_wp2
            go_ret
            exact ⟨ret_b HR.out.symm, hbx⟩
        · obtain rfl : k = R.length := by omega
          have HR := Lib.hid (show sameQ S S2 (pl R) (pl R2) = true from decide_eq_true ⟨HCE.out.1, pl_ext HCE.out.2 (fun j h1 h2 => HALL.out j h1 h2 h1)⟩)
          clear hlt hk
          go_wp2
          go_ret
          exact ⟨ret_b HR.out.symm, HBR.out⟩
    · have hlI : ((R.length : Int) != (R2.length : Int)) = true := by simp; omega
      have hlN : (R.length != R2.length) = true := by simp; omega
      have hlB : ((R.length : Int) == (R2.length : Int)) = false := by rw [beq_eq_false_iff_ne]; omega
      have hlBN : (R.length == R2.length) = false := by rw [beq_eq_false_iff_ne]; omega
      have HR := Lib.hid (show sameQ S S2 (pl R) (pl R2) = false from decide_eq_false (fun e => hlen (by have := congrArg List.length e.2; rwa [pl_len, pl_len] at this)))
      clear hcap hlen hl hl2
      go_enter Try.func17, Try.ntmps17
      go_wp2_with fail
      go_quiet (fail)
      have hbx := below_drewN (Below.refl w.heap.size w) nq
      go_wp2
      go_ret
      exact ⟨ret_b HR.out.symm, hbx⟩
  · have hcI : ((S.cap : Int) != (S2.cap : Int)) = true := by simp; omega
    have hcN : (S.cap != S2.cap) = true := by simp; omega
    have hcB : ((S.cap : Int) == (S2.cap : Int)) = false := by rw [beq_eq_false_iff_ne]; omega
    have hcBN : (S.cap == S2.cap) = false := by rw [beq_eq_false_iff_ne]; omega
    have HR := Lib.hid (show sameQ S S2 (pl R) (pl R2) = false from decide_eq_false (fun e => hcap e.1))
    clear hcap hl hl2
    go_enter Try.func17, Try.ntmps17
    go_wp2_with fail
    go_quiet (fail)
    have hbx := below_drewN (Below.refl w.heap.size w) nq
    go_wp2
    go_ret
    exact ⟨ret_b HR.out.symm, hbx⟩
end
end Go.Proofs.Ytdbkhigocjmfoaa

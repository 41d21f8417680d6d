/-
  The walk of ctx's compact.
-/
import Derived.Test.YtldfaaahmpncbaaGreatCtxRegion
import Derived.Test.YtldfaaahmpncbaaGreatCtxBlk
import Derived.WalkMore
import Derived.Test.YtldfaaahmpncbaaGreatCtxCompactM
namespace Go.Proofs.YtldfaaahmpncbaaGreat
open Go.RowKit
open CtxM
set_option linter.unusedVariables false
set_option linter.unusedSimpArgs false

/-- How long a slice is, as a loop's measure. -/
def slLen : Value → Nat
  | .slice _ n _ => n
  | _ => 0
theorem Sd.cons {w : World} {A : Option Addr} {n c : Nat} {d : Dt} {M : List Dt} (h : Sd w (.slice A n c) (d :: M)) : n = M.length + 1 ∧ M.length + 1 ≤ c ∧ ∃ b o, A = some ⟨b, o, none⟩ ∧ w.cell? ⟨b, o, none⟩ = some (.int .i64 d.1) ∧ w.cell? ⟨b, o + 1, none⟩ = some (.int .u64 (d.2 : Int)) ∧ Sd w (.slice (some ⟨b, o + 2, none⟩) M.length (c - 1)) M ∧ Sd w (.slice (some ⟨b, o, none⟩) (M.length + 1) c) (d :: M) := by
  obtain rfl := h.len
  have h' := h
  obtain ⟨A', c', e, hc, ha⟩ := h
  injection e with e1 e2 e3
  subst e1; subst e3
  obtain ⟨b, o, rfl, hx⟩ := ha (by simp)
  refine ⟨by simp, by simpa using hc, b, o, rfl, by have := (hx 0 (by simp)).1; rw [show o + 0 * 2 = o by omega] at this; exact this, by have := (hx 0 (by simp)).2; rw [show o + 0 * 2 + 1 = o + 1 by omega] at this; exact this, ?_, by simpa using h'⟩
  have := h'.sub 1 (d :: M).length (by simp) (Nat.le_refl _) (some ⟨b, o + 2, none⟩) (fun b' o' e _ => by injection e with e; injection e with e1 e2; subst e1; subst e2; rfl) hc
  rw [List.take_length] at this
  simpa using this

set_option maxHeartbeats 2000000 in
set_option maxRecDepth 20000 in
theorem compact_any (v : Value) (V : List Nat) (L : List Dt) (w : World) (hs : Sd w v L) (hV : V.length = 16) (hle : ∀ n ∈ V, n ≤ top) (hl : L.length ≤ 10000) (hr : Rise L) (hm : ∀ d ∈ L, May d) :
    Calls Tryz.prog 83 #[.agg (uqs V), v] w fun e w' => ∃ v', e = .returned (.tuple #[.agg (uqs (cp V L).1), v']) ∧ OwnD w' w.heap.size v' (cp V L).2 ∧ Below w.heap.size w w' := by
  obtain ⟨i0, hi, hz0, hz1, hz2⟩ := info_parts info_dot
  have hor := fun (r : Int) (h0 : -1000 ≤ r) (h1 : r ≤ 1000) W (hb : Below w.heap.size w W) => ofRegion_any v L r W (hs.below hb) (by omega) hr h0 h1
  have hcf := fun r h1 h2 => cp_fr L V hV hm r h1 h2
  have hrr := fun r => rise_region hr r
  have hst := fun r => filter_step (hr.sublist (cp_sub L V)) r
  have hcl := cp_len L V
  have hsh := cp_short L V
  obtain ⟨W, hW⟩ : ∃ W, W = (cp V L).1 := ⟨_, rfl⟩
  obtain ⟨Y, hY⟩ : ∃ Y, Y = (cp V L).2 := ⟨_, rfl⟩
  have hall : (Y.filter fun x => decide (x.1 ≤ (16 : Int))) = Y := List.filter_eq_self.2 fun x hx => by
    have := (hm x ((cp_sub L V).subset (hY ▸ hx))).2.1
    simpa using this
  have hnone : (Y.filter fun x => decide (x.1 ≤ (0 : Int))) = [] := List.filter_eq_nil_iff.2 fun x hx => by
    have := (hm x ((cp_sub L V).subset (hY ▸ hx))).1
    simp; omega
  rw [← hW, ← hY]
  rw [← hW] at hcl
  rw [← hY] at hsh hst
  rw [← hW, ← hY] at hcf
  have HV := Lib.hid hV
  have HW : W.length = 16 := by omega
  obtain ⟨A, c, rfl, _⟩ := id hs
  have HS := Lib.hid hs
  clear hs hW hY hcl
  go_enter Tryz.func83, Tryz.ntmps83
  go_wp2
  obtain ⟨Z, hZ⟩ : ∃ Z : Array Value, Z = #[.int .u64 0, .int .u64 0, .int .u64 0, .int .u64 0, .int .u64 0, .int .u64 0, .int .u64 0, .int .u64 0, .int .u64 0, .int .u64 0, .int .u64 0, .int .u64 0, .int .u64 0, .int .u64 0, .int .u64 0, .int .u64 0] := ⟨_, rfl⟩
  have hZs : Z.size = 16 := by rw [hZ]; rfl
  rw [← hZ]
  clear hZ
  go_loopw [6, 10] (fun x z wr => ∃ i : Nat, z = .int .i64 (i : Int) ∧ i ≤ 16 ∧ ∃ U, Mix W V U i ∧ Blk wr w.heap.size 97 (uqs U) ∧ Blk wr (w.heap.size + 1) 97 Z ∧ OwnD wr (w.heap.size + 2) x (Y.filter fun x => decide (x.1 ≤ (i : Int))) ∧ Below w.heap.size w wr) (fun _ z _ => 16 - (intOf z).toNat)
  case atStart =>
    refine ⟨0, rfl, Nat.zero_le _, V, Mix.start HV.out W, (Blk.new w _ _).alloc _, ?_, ?_, ((Below.refl _ _).alloc (Nat.le_refl _) _).alloc (by simp) _⟩
    · have := Blk.new (w.alloc (.cells (uqs V) 97)) 97 Z
      rw [show (w.alloc (.cells (uqs V) 97)).heap.size = w.heap.size + 1 from by simp] at this
      exact this
    · show OwnD _ _ _ (Y.filter fun x => decide (x.1 ≤ (0 : Int)))
      rw [hnone]; exact OwnD.nil
  case round =>
    obtain ⟨i, rfl, hi16, U, hU, hB0, hB1, ho, hb⟩ := hrel
    by_cases hlt : i < 16
    · have hcf1 := hcf ((i : Int) + 1) (by omega) (by omega)
      have hrr1 := hrr ((i : Int) + 1)
      have hst1 := hst (i : Int)
      go_wp2_with fail
      go_step3
      go_wp2_with fail
      refine (hor ((i : Int) + 1) (by omega) (by omega) _ hb).mono ?_
      rintro e w1 ⟨v1, rfl, hs1, hg1⟩
      replace hs1 := hs1 w HS.out
      have hsz := hb.size
      replace hB0 := hB0.below hg1.below hB0.lt
      replace hB1 := hB1.below hg1.below hB1.lt
      replace ho := ho.below hg1.below
      replace hb := hb.trans (hg1.below.mono hb.size)
      have hsz1 := hg1.below.size
      have HU := Lib.hid hU
      have hU16 := hU.1
      have hUg := hU.get hlt
      have HUg := Lib.hid hUg
      have HC := Lib.hid hcf1
      have HT := Lib.hid hst1
      have htop : ∀ d ∈ L.filter (fun d => decide (d.1 = (i : Int) + 1)), d.2 ≤ top := fun d hd => (hm d (List.mem_filter.1 hd).1).2.2.2
      have hat := at_le hle ((i : Int) + 1)
      clear hor hcf hrr hst hg1 hU hcf1 hst1 hUg
      go_wp2
      go_step3
      go_wp2
      go_loopw [8] (fun y wq => ∃ (M : List Dt) (n : Nat), Sd w y M ∧ fr n M = fr (at_ V ((i : Int) + 1)) (L.filter fun d => decide (d.1 = (i : Int) + 1)) ∧ (M.Pairwise fun a b => a.2 < b.2) ∧ M.length ≤ 10000 ∧ (∀ d ∈ M, d.2 ≤ top) ∧ n ≤ top ∧ Blk wq w.heap.size 97 (uqs (U.set i n)) ∧ Blk wq (w.heap.size + 1) 97 Z ∧ OwnD wq (w.heap.size + 2) u6 (Y.filter fun x => decide (x.1 ≤ (i : Int))) ∧ Below w.heap.size w wq) (fun y _ => slLen y)
      case atStart =>
        refine ⟨_, at_ V ((i : Int) + 1), hs1, rfl, hrr1, Nat.le_trans (List.length_filter_le _ _) hl, htop, hat, ?_, hB1, ho, hb⟩
        have e : U.set i (at_ V ((i : Int) + 1)) = U := by
          rw [← HUg.out, List.getD_eq_getElem?_getD, List.getElem?_eq_getElem (by omega)]
          simp
        rw [e]; exact hB0
      case round =>
        clear hB0 hB1 ho hb hs1
        obtain ⟨M, n, hsM, hfr, hpw, hml, hmt, hnt, hB0, hB1, ho, hb⟩ := hrel
        have hsQ := hsM.keep (w' := wr) fun p u _ hu => (hb.cell (World.block_lt_of_cell? w p hu)).trans hu
        obtain ⟨Ay, ny, cy, rfl⟩ := hsM.shape
        obtain rfl := hsM.len
        have hc0 := hB0.cell i
        rw [uqs_get _ _ (by rw [List.length_set]; omega), List.getD_eq_getElem?_getD, List.getElem?_set_self (by omega)] at hc0
        simp only [Option.getD_some] at hc0
        have hfz := hB0.frozen i
        have hw1 : IntKind.u64.wrap ((n : Int) + 1) = (n : Int) + 1 := by rw [IntKind.wrap_u64]; unfold top at hnt; omega
        have hlen : (Y.filter fun x => decide (x.1 ≤ (i : Int))).length + M.length ≤ 1000000 := by
          have := List.length_filter_le (fun x => decide (x.1 ≤ (i : Int))) Y
          omega
        have hbase : w.heap.size + 2 ≤ wr.heap.size := by have := hB1.lt; omega
        rcases M with _ | ⟨d, M⟩
        · have HF := Lib.hid hfr
          have HO := Lib.hid ho
          clear hfr
          go_wp2_with (refine wpList_append_dots _ rfl (.tmp 45) (.tmp 46) 30 rfl (w.heap.size + 2) i0 Tryz.underlying30 hi hz0 hz1 hz2 _ _ rfl ho _ _ rfl hsQ hlen hbase ?_; intro v' w2 ho2 hgr _ _)
          rw [Exit.noGoto_normal]
          go_wp2
          have hU2 := HU.out.next hlt
          have hf2 := HF.out
          have hcc := HC.out
          rw [← hf2] at hcc
          have hWn : W.getD i 0 = n := by
            have := hcc.1
            unfold at_ at this
            rw [show ((i : Int) + 1 - 1).toNat = i by omega] at this
            exact this
          have hYn : (Y.filter fun x => decide (x.1 = (i : Int) + 1)) = [] := hcc.2
          rw [hWn] at hU2
          have hT := HT.out
          rw [hYn] at hT
          refine ⟨⟨i + 1, by go_num, by omega, U.set i n, hU2, hB0.past HO.out hgr (by omega), hB1.past HO.out hgr (by omega), ?_, HO.out.grown hgr hb (by omega) (by omega)⟩, by simp [intOf]; omega⟩
          show OwnD w2 (w.heap.size + 2) v' (Y.filter fun x => decide (x.1 ≤ (((i + 1 : Nat) : Int))))
          rw [show (((i + 1 : Nat) : Int)) = (i : Int) + 1 by omega, hT]
          exact ho2
        · obtain ⟨_, hcy, b, o, rfl, _, _, htl, hsA⟩ := hsM.cons
          obtain ⟨_, _, b2, o2, e2, k0, k1, _, hsQA⟩ := hsQ.cons
          injection e2 with e2
          injection e2 with e3 e4
          subst e3; subst e4
          rw [List.length_cons] at hlen hml ⊢
          by_cases hgt : n + 1 < d.2
          · have hfin : fr n (d :: M) = (n, d :: M) := fr_break hpw rfl hgt
            rw [hfr] at hfin
            have HF := Lib.hid hfin
            have HO := Lib.hid ho
            have hgt2 : (n : Int) + 1 < (d.2 : Int) := by omega
            clear hfin hfr hgt
            go_wp2_with (refine wpList_append_dots _ rfl (.tmp 45) (.tmp 46) 30 rfl (w.heap.size + 2) i0 Tryz.underlying30 hi hz0 hz1 hz2 _ _ rfl ho _ _ rfl hsQA hlen hbase ?_; intro v' w2 ho2 hgr _ _)
            have hU2 := HU.out.next hlt
            have hf2 := HF.out
            have hcc := HC.out
            rw [hf2] at hcc
            have hWn : W.getD i 0 = n := by
              have := hcc.1
              unfold at_ at this
              rw [show ((i : Int) + 1 - 1).toNat = i by omega] at this
              exact this
            have hYn : (Y.filter fun x => decide (x.1 = (i : Int) + 1)) = d :: M := hcc.2
            rw [hWn] at hU2
            have hT := HT.out
            rw [hYn] at hT
            refine ⟨⟨i + 1, by go_num, by omega, U.set i n, hU2, hB0.past HO.out hgr (by omega), hB1.past HO.out hgr (by omega), ?_, HO.out.grown hgr hb (by omega) (by omega)⟩, by simp [intOf]; omega⟩
            show OwnD w2 (w.heap.size + 2) v' (Y.filter fun x => decide (x.1 ≤ (((i + 1 : Nat) : Int))))
            rw [show (((i + 1 : Nat) : Int)) = (i : Int) + 1 by omega, hT]
            exact ho2
          · have hgt2 : ¬ (n : Int) + 1 < (d.2 : Int) := by omega
            by_cases heq : d.2 = n + 1
            · have heq2 : (d.2 : Int) = (n : Int) + 1 := by omega
              have HF := Lib.hid ((fr_up (M := M) heq).symm.trans hfr)
              clear hfr heq
              go_wp2
              have htl2 : Sd w (.slice (if cy = 1 then some ⟨b, o, none⟩ else some ⟨b, o + 2, none⟩) M.length (cy - 1)) M := by
                by_cases hc1 : cy = 1
                · have h0 : M = [] := List.eq_nil_of_length_eq_zero (by omega)
                  subst h0
                  exact Sd.nil _ _
                · rw [if_neg hc1]; exact htl
              refine ⟨⟨M, n + 1, htl2, HF.out, (List.pairwise_cons.1 hpw).2, by omega, fun x hx => hmt x (List.mem_cons_of_mem _ hx), by have := hmt d (List.mem_cons_self ..); omega, ?_, ?_, ?_, ?_⟩, by simp [slLen]⟩
              · have := hB0.set_ i (.int .u64 ((n : Int) + 1))
                rw [show ((n : Int) + 1) = ((n + 1 : Nat) : Int) by omega, uqs_set, List.set_set] at this
                exact this
              · exact hB1.far (by simp) _
              · exact ho.kept (S := fun k => k = w.heap.size) (.setCell _ _ _ rfl) (fun k hk e => by have := (ho.lt k hk).1; omega)
              · exact Keep.below (S := fun k => k = w.heap.size) hb (.setCell _ _ _ rfl) (by omega) (fun k hk => by omega)
            · have heq2 : ¬ (d.2 : Int) = (n : Int) + 1 := by omega
              have HF := Lib.hid ((fr_by (d := d) (M := M) (by omega : d.2 ≤ n)).symm.trans hfr)
              clear hfr heq
              go_wp2
              have htl2 : Sd w (.slice (if cy = 1 then some ⟨b, o, none⟩ else some ⟨b, o + 2, none⟩) M.length (cy - 1)) M := by
                by_cases hc1 : cy = 1
                · have h0 : M = [] := List.eq_nil_of_length_eq_zero (by omega)
                  subst h0
                  exact Sd.nil _ _
                · rw [if_neg hc1]; exact htl
              exact ⟨⟨M, n, htl2, HF.out, (List.pairwise_cons.1 hpw).2, by omega, fun x hx => hmt x (List.mem_cons_of_mem _ hx), hnt, hB0, hB1, ho, hb⟩, by simp [slLen]⟩
    · obtain rfl : i = 16 := by omega
      have hUW := hU.last HW
      subst hUW
      have hth := hB1.there
      rw [hZs, ← HW, ← uqs_size] at hth
      have hinf := uqs_info HW
      have hone := uqs_one U
      have hY16 : (Y.filter fun x => decide (x.1 ≤ ((16 : Nat) : Int))) = Y := hall
      rw [hY16] at ho
      have hne := hB0.lt
      go_wp2_with (first | (refine wpList_load_row rfl 97 _ rfl w.heap.size rfl 97 (uqs U) (0, 0) _ hB0 Tryz.underlying97 rfl hinf ?_) | (refine wpList_store_mid rfl 97 _ _ rfl (w.heap.size + 1) 0 (uqs U) rfl rfl hth hinf hone ?_))
      have hE := hB1.setRow (ds := uqs U) (by rw [uqs_size, HW, hZs])
      have hgE := grown_setCells (w.heap.size + 1) (uqs U).toList 0 wr
      have hoE : OwnD (wr.setCells (w.heap.size + 1) 0 (uqs U).toList) w.heap.size u6 Y := (ho.keep fun k hk => hgE.block k (ho.lt k hk).2 (fun e => by injection e with e; have := (ho.lt k hk).1; omega)).mono (by omega)
      exact bodyPost_ret (v := .tuple #[.agg (uqs U), u6]) (results_row_tmp rfl _ _ (w.heap.size + 1) 97 (uqs U) (0, 0) _ u6 rfl rfl hE Tryz.underlying97 rfl hinf) rfl ⟨u6, rfl, hoE, (Below.only hb hgE (by omega) (by omega))⟩
end Go.Proofs.YtldfaaahmpncbaaGreat

/-
  Clear; All of no net; once of no net.
-/
import Derived.Test.YtellbmghahgjfaaNetO
namespace Go.Proofs.Ytellbmghahgjfaa
open Go.RowKit Go.Maps Go.WideShapes Go.WideMaps
open NetM
set_option linter.unusedVariables false
set_option linter.unusedSimpArgs false
set_option maxRecDepth 20000
attribute [local go_sem] Oper.semAt_some

section
variable {w w' : World} {p b : Nat} {E lost : Int} {m : Option Nat} {K : Kl} {V : List (Fl Pl)} {G : Nat → Prop}
theorem stay_all (K : Kl) (e : Int) : stayK K e (K.map Prod.fst) = K.filter fun x => !decide (x.1.2 = e) := by
  unfold stayK
  refine List.filter_congr fun x hx => ?_
  have h : x.1 ∈ K.map Prod.fst := List.mem_map.2 ⟨x, hx, rfl⟩
  congr 1
  rw [decide_eq_decide]
  exact ⟨fun h => h.2, fun h2 => ⟨h, h2⟩⟩
theorem lineAt_stay (K : Kl) (e : Int) (q : Pr) : lineAt (K.filter fun x => !decide (x.1.2 = e)) q = if q.2 = e then nilS else lineAt K q := by
  induction K with
  | nil => simp [lineAt]
  | cons x K ih =>
    rw [List.filter_cons]
    by_cases hx : x.1.2 = e
    · rw [if_neg (by simp [hx]), ih]
      by_cases hq : q.2 = e
      · rw [if_pos hq, if_pos hq]
      · rw [if_neg hq, if_neg hq, lineAt, if_neg (fun h => hq (by rw [← h]; exact hx))]
    · rw [if_pos (by simp [hx]), lineAt, lineAt, ih]
      by_cases hxq : x.1 = q
      · rw [if_pos hxq, if_pos hxq, if_neg (by rw [← hxq]; exact hx)]
      · rw [if_neg hxq, if_neg hxq]
/-- Lines to an end struck out. -/
theorem Nt.strike (h : Nt w p b E lost K V G) (e : Int) (hm : w'.ownsMap Try.prog 61 heldR b (stayK K e (K.map Prod.fst)).length (MD svD (stayK K e (K.map Prod.fst)))) (hg : w.grownBy w' (some b)) : Nt w' p b E lost (stayK K e (K.map Prod.fst)) (clear V e) G := by
  have k : Keep (fun i => i = b) w w' := .of_grown hg (fun k e => by injection e with e; exact e.symm)
  have hG : ∀ i, G i → ¬ i = b := fun i hi e => h.gb (e ▸ hi)
  refine ⟨h.blk.kept k h.pb, hm, stayK_ok h.ok e _, fun x hx => h.keys x (List.mem_filter.1 hx).1, fun q => ?_, fun f hf => InB.sl (h.by_ f (List.mem_filter.1 hf).1) k fun i hi => hG i (h.inb f (List.mem_filter.1 hf).1 i hi), fun q i hi => ?_, fun f hf => h.inb f (List.mem_filter.1 hf).1, fun i hi => ?_, clear_sorted h.sorted e, fun f hf => h.inr f (List.mem_filter.1 hf).1, h.ends, fun f hf => h.lens f (List.mem_filter.1 hf).1, fun q => ?_, h.lst⟩
  · rw [stay_all, lineAt_stay, clear_line]
    by_cases hq : q.2 = e
    · rw [if_pos hq, if_pos hq]; exact SlK.nil _ _
    · rw [if_neg hq, if_neg hq]; exact InB.slk (h.row q) k fun i hi => hG i (h.inl q i hi)
  · rw [stay_all, lineAt_stay] at hi
    by_cases hq : q.2 = e
    · rw [if_pos hq] at hi; obtain ⟨a, ha, _⟩ := hi; cases ha
    · rw [if_neg hq] at hi; exact h.inl q i hi
  · obtain ⟨cs, t, m, hh, ht⟩ := h.gty i hi
    exact ⟨cs, t, m, (k.block i (h.glt i hi) (hG i hi)).trans hh, ht⟩
  · rw [clear_line]
    split
    · simp
    · exact h.full q
/-- How many are gone. -/
def goneN (V : List (Fl Pl)) (e : Int) : Int := (V.length : Int) - ((clear V e).length : Int)
set_option maxHeartbeats 4000000 in
theorem clear_any (h : Nt w p b E lost K V G) (e : Int) : Calls Try.prog 24 #[.pointer (some ⟨p, 0, none⟩), .int .i64 e] w fun r w' => r = .returned (.int .i64 (goneN V e)) ∧ Turn w p b E lost (clear V e) G w' := by
  have hb1 : Below w.heap.size w (w.alloc (.cells #[.int .i64 e] 3)) := (Below.refl _ _).alloc (Nat.le_refl _) _
  have hB := Blk.new w 3 #[.int .i64 e]
  have h1 := h.below hb1
  have hfew := h.ls.few
  have hcl : (clear V e).length ≤ V.length := List.length_filter_le _ _
  have hsf : ∀ a b c W, (Instr.field 55 (.agg #[a, b, c]) 1).run Try.prog W = .ok b W := fun a b c W => net_f1 a b c W
  have hgn : goneN V e = (V.length : Int) - ((clear V e).length : Int) := rfl
  have hwr : IntKind.i64.wrap ((V.length : Int) - ((clear V e).length : Int)) = goneN V e := by rw [hgn, IntKind.wrap_i64] <;> omega
  have hbl := h.map.lt
  have hpl := h.blk.lt
  go_enter Try.func24, Try.ntmps24
  go_upto_region 1 with fail
  generalize w.alloc (.cells #[.int .i64 e] 3) = W at hb1 hB h1 ⊢
  have HL1 := Lib.hid (len_any h1)
  have HK := Lib.hid (show ∀ X, Below W.heap.size W X → Calls Try.prog 43 #[.pointer (some ⟨p, 0, none⟩)] X fun e' w' => e' = .returned (.agg #[.int .i64 E, .map (some b), .int .i64 lost]) ∧ Below X.heap.size X w' from fun X hX => look_any (h1.below hX))
  have HD := Lib.hid (show ∀ X, Below W.heap.size W X → Calls Try.prog 44 #[.map (some b), .func (.func 45) #[] #[.pointer (some ⟨w.heap.size, 0, none⟩)]] X fun r w' => r = .returned (.tuple #[]) ∧ Nt w' p b E lost (stayK K e (K.map Prod.fst)) (clear V e) G ∧ X.grownBy w' (some b) from fun X hX => by
    have hBX := hB.below hX hB.lt
    refine (deleteL_any h.ok w.heap.size e X (by rw [hBX.cell]; rfl) (by omega) (h1.below hX).map).mono ?_
    rintro r w' ⟨rfl, hm, hg⟩
    exact ⟨rfl, (h1.below hX).strike e hm hg, hg⟩)
  go_wp2_with (first | (go_at_call 20; refine HL1.out.mono ?_; rintro r X1 ⟨rfl, hbX1⟩; have hLx := Lib.hid hbX1; clear HL1) | (go_at_call 43; refine (HK.out X1 hbX1).mono ?_; rintro r X2 ⟨rfl, hbX2⟩; have hX2 := hbX1.trans (hbX2.mono hbX1.size)) | (go_at_call 44; refine (HD.out X2 hX2).mono ?_; rintro r X3 ⟨rfl, hN3, hg3⟩; have hL3 := len_any hN3) | (go_at_call 20; refine hL3.mono ?_; rintro r X4 ⟨rfl, hbX4⟩))
  go_ret
  refine ⟨?_, ?_⟩
  · exact rfl
  · have hX := hb1.trans (hX2.mono hb1.size)
    refine Turn.below (Turn.pre hX ⟨(Keep.of_grown hg3 (fun k e => by injection e with e; exact e.symm)).mono (fun _ h => .inr h), _, G, hN3, fun i hi => .inl hi⟩) hbX4
set_option maxHeartbeats 4000000 in
theorem clear_no {v : Value} (h : NoN w v) (e : Int) : Calls Try.prog 24 #[v, .int .i64 e] w fun r w' => r = .returned (.int .i64 0) ∧ Below w.heap.size w w' := by
  have hb1 : Below w.heap.size w (w.alloc (.cells #[.int .i64 e] 3)) := (Below.refl _ _).alloc (Nat.le_refl _) _
  have h1 := h.below hb1
  have hsf : ∀ a b c W, (Instr.field 55 (.agg #[a, b, c]) 1).run Try.prog W = .ok b W := fun a b c W => net_f1 a b c W
  go_enter Try.func24, Try.ntmps24
  go_upto_region 1 with fail
  generalize w.alloc (.cells #[.int .i64 e] 3) = W at hb1 h1 ⊢
  have HL1 := Lib.hid (len_no h1)
  have HK := Lib.hid (show ∀ X, Below W.heap.size W X → Calls Try.prog 43 #[v] X fun e' w' => e' = .returned (.agg #[.int .i64 0, .map none, .int .i64 0]) ∧ Below X.heap.size X w' from fun X hX => look_no (h1.below hX))
  have HL2 := Lib.hid (show ∀ X, Below W.heap.size W X → Calls Try.prog 20 #[v] X fun e' w' => e' = .returned (.int .i64 0) ∧ Below X.heap.size X w' from fun X hX => len_no (h1.below hX))
  go_wp2_with (first | (go_at_call 20; refine HL1.out.mono ?_; rintro r X1 ⟨rfl, hbX1⟩; clear HL1) | (go_at_call 43; refine (HK.out X1 hbX1).mono ?_; rintro r X2 ⟨rfl, hbX2⟩; have hX2 := hbX1.trans (hbX2.mono hbX1.size)) | (go_at_call 44; refine (deleteL_nil _ X2).mono ?_; rintro r X3 ⟨rfl, hbX3⟩; have hX3 := hX2.trans (hbX3.mono hX2.size)) | (go_at_call 20; refine (HL2.out X3 hX3).mono ?_; rintro r X4 ⟨rfl, hbX4⟩))
  go_ret
  exact ⟨rfl, (hb1.trans (hX3.mono hb1.size)).trans (hbX4.mono (by have := hb1.size; have := hX3.size; omega))⟩
theorem netAll_no {v : Value} (h : NoN w v) : Calls Try.prog 46 #[v] w fun e w' => ∃ bx, e = .returned (.func (.func 51) #[] #[.pointer (some ⟨bx, 0, none⟩)]) ∧ LsAt w' bx none [] [] (fun _ => False) ∧ Below w.heap.size w w' := by
  have hk := look_no h
  have hsf : ∀ a b c W, (Instr.field 55 (.agg #[a, b, c]) 1).run Try.prog W = .ok b W := fun a b c W => net_f1 a b c W
  go_enter Try.func46, Try.ntmps46
  go_wp2_with (first | (go_at_call 43; refine hk.mono ?_; rintro e w2 ⟨rfl, hb⟩) | (go_at_call 30; refine (cloneL_nil w2).mono ?_; rintro e w3 ⟨rfl, hwd⟩; obtain rfl := hwd.symm))
  go_ret
  exact ⟨w2.heap.size, rfl, ⟨Ls.none _, (Blk.new w2 _ _).cell 0⟩, hb.alloc hb.size _⟩
theorem enter_allN : ∀ args w, (callFunc 51 args).run Try.prog w = .ok (.enter 51 args) w := fun _ _ => by kernel_rfl
theorem nextF_nil {pre : List Pf} {x : Pf} (h : NextF [] pre x) : False := by
  obtain ⟨f, hf, _⟩ := h
  simp at hf
set_option maxHeartbeats 4000000 in
theorem allN_nil (bx : Nat) (w : World) (hL : LsAt w bx none [] [] (fun _ => False)) : SeqP Fence.wide 18 Try.prog 51 #[.pointer (some ⟨bx, 0, none⟩)] encF (fun _ _ _ => False) (fun _ _ => True) (fun xs => xs = []) (fun _ => False) 0 w := by
  intro l J Jx W hbW hJ hJx hY h0
  have hLW := hL.kept hbW (fun c e => by cases e) (fun i hi => hi.elim) (World.block_lt_of_cell? w ⟨bx, 0, none⟩ hL.2)
  have c0 := hLW.2
  have hbxl := World.block_lt_of_cell? W ⟨bx, 0, none⟩ c0
  have HJ := Lib.hid hJ
  have H0 := Lib.hid h0
  show CallsIn Fence.wide 18 Try.prog 51 #[.func (.yield l) #[] #[], .pointer (some ⟨bx, 0, none⟩)] W _
  refine callsIn_of_wp_marks Try.func51 rfl trivial ?_ rfl
  simp only [Try.ntmps51, List.size_toArray, List.length_cons, List.length_nil, Nat.reduceAdd, Nat.reduceSub, Array.replicate_succ, Array.replicate_zero, List.push_toArray, List.append_toArray, List.nil_append, List.cons_append]
  clear hJ h0 hY hJx hL
  have hbW1 : Below W.heap.size W ((W.alloc (.cells #[.func (.yield l) #[] #[]] 84)).alloc (.cells #[.map none] 53)) := ((Below.refl _ _).alloc (Nat.le_refl _) _).alloc (by simp) _
  have hLs : LsAt ((W.alloc (.cells #[.func (.yield l) #[] #[]] 84)).alloc (.cells #[.map none] 53)) (W.heap.size + 1) none [] [] (fun _ => False) := ⟨Ls.none _, by have := (Blk.new (W.alloc (.cells #[.func (.yield l) #[] #[]] 84)) 53 #[.map none]).cell 0; rw [World.size_alloc] at this; exact this⟩
  have hI0 := Lib.hid (HJ.out _ _ _ H0.out hbW1)
  gi_wp2_with (first | (refine ⟨trivial, ?_⟩; gi_at_call 50; refine (callsIn_wide.2 (linesAll_any none _)).mono ?_; rintro e w3 ⟨rfl, rfl⟩))
  generalize (W.alloc (.cells #[.func (.yield l) #[] #[]] 84)).alloc (.cells #[.map none] 53) = W2 at hbW1 hLs hI0 ⊢
  have hsz := hbW1.size
  have hbl2 := World.block_lt_of_cell? W2 ⟨W.heap.size + 1, 0, none⟩ hLs.2
  have hseq : SeqP Fence.wide 17 Try.prog 53 #[.pointer (some ⟨W.heap.size + 1, 0, none⟩)] encF (fun pre x _ => NextF [] pre x) (fun _ _ => True) (fun xs => xs = []) (fun _ => True) 0 W2 := by
    intro l' J' Jx' X hbX hJ' hJx' hY' h0'
    refine (allL_in 17 (by omega) l' (W.heap.size + 1) (fun _ _ => False) J' Jx' X (fun pre x W1 _ hx _ => (nextF_nil hx).elim) (fun _ _ h _ => h.elim) (hLs.kept hbX (fun c e => by cases e) (fun i hi => hi.elim) hbl2) h0').mono ?_
    rintro e X' ⟨h1, ⟨xs, hx, hj⟩ | ⟨pre, hp, hj⟩⟩
    · exact ⟨h1, .inl ⟨xs, hx, hj⟩⟩
    · exact ⟨h1, .inr ⟨pre, trivial, hj⟩⟩
  refine' range_p rfl (by omega) (gf := 53) (lb := #[.pointer (some ⟨W.heap.size + 1, 0, none⟩)]) rfl trivial enter_allL hseq (fun {A B C} h k => trivial) (fun _ _ _ _ _ _ _ _ => trivial) (Below.refl _ _) (fun _ => rfl) (fun pre x W l o o' hx _ _ => hx)
    (fun pre X => pre = [] ∧ J [] X ∧ W2.heap.size ≤ X.heap.size) (fun _ _ _ => False) (abs_of (fun s X h => h.2.2) (fun s A C h k => ⟨h.1, HJ.out _ _ _ h.2.1 (k.mono hsz), Nat.le_trans h.2.2 k.size⟩)) (fun c => abs_of (fun s W h => h.elim) (fun s A C h k => h)) ⟨rfl, hI0.out, Nat.le_refl _⟩
    (fun _ _ _ _ => False) ?hRb ?assign ?body ?done ?stop
  case hRb => intro _ _ _ _ _ _ _ h; exact h.elim
  case assign => intro l pre x W K _ hx; exact (nextF_nil hx).elim
  case body => intro l pre x a' W h; exact h.elim
  case stop => intro D c pre W _ _ h; exact h.elim
  case done =>
    rintro D xs X hD' rfl ⟨_, hj, hszX⟩ hDe
    have HK := Lib.hid hDe
    have HJ2 := Lib.hid (HJ.out _ _ _ hj (below_put X D (.deferred none) (Nat.le_trans hsz hD') (Nat.le_trans hsz hszX)))
    clear hDe hj
    gi_wp2
    refine ⟨by simp, .inl ⟨_, _, rfl, run_takeDeferred HK.out, ?_⟩⟩
    exact ⟨_, results_none rfl _ _ _, ⟨_, rfl⟩, HJ2.out⟩
end
end Go.Proofs.Ytellbmghahgjfaa

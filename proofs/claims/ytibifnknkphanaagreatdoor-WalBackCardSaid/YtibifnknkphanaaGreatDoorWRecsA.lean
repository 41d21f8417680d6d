/-
  (*Log).Snapshot; (*Log).Records, the iterator that it answers.
-/
import Derived.Test.YtibifnknkphanaaGreatDoorWRemA
import Derived.Test.YtibifnknkphanaaGreatDoorWRange
namespace Go.Proofs.YtibifnknkphanaaGreatDoor
open Go.RowKit Go.Maps
open DskM WalM
set_option linter.unusedVariables false
set_option linter.unusedSimpArgs false
set_option maxRecDepth 20000
attribute [local go_sem] Oper.semAt_some
section
variable {w : World} {g p : Nat} {s : ByteArray} {most : Int} {num : Nat} {vs vr : Value} {size : Int} {synced : Nat} {dead : Bool}
theorem wsnap_any (h : Blk w g 60 (lgCells p s most num vs vr size synced dead)) (l : List UInt8) (hs : Sl w vs l) (hl : l.length ≤ 1000000000) :
    Calls Tryz.prog 25 #[.pointer (some ⟨g, 0, none⟩)] w fun e w' => ∃ v', e = .returned v' ∧ Own w' w.heap.size 5 v' l ∧ Below w.heap.size w w' := by
  have HCL := Lib.hid (dclone_any vs l w hs hl)
  obtain ⟨A, n, c, rfl⟩ := hs.shape
  have c4 : w.cell? ⟨g, 4, none⟩ = some (.slice A n c) := by rw [h.cell]; rfl
  have HN := Lib.hid (wnone_any h)
  clear h hs
  go_enter Tryz.func25, Tryz.ntmps25
  go_wp2_with fail
  refine HN.out.mono ?_
  rintro e wx ⟨rfl, hwx⟩
  rw [hwx]
  clear hwx wx HN
  go_wp2_with fail
  refine HCL.out.mono ?_
  rintro e w1 ⟨v1, rfl, ho1, hb1⟩
  have HE := Lib.hid (And.intro ho1 hb1)
  clear ho1 hb1 HCL c4
  go_wp2
  go_ret
  exact ⟨_, rfl, HE.out⟩
theorem wsnap_no {a : Option Addr} (hn : Calls Tryz.prog 69 #[.pointer a] w fun e w' => e = .returned (.bool true) ∧ w' = w) :
    Calls Tryz.prog 25 #[.pointer a] w fun e w' => e = .returned (.slice none 0 0) ∧ w' = w := by
  have HN := Lib.hid hn
  clear hn
  go_enter Tryz.func25, Tryz.ntmps25
  go_wp2_with fail
  refine HN.out.mono ?_
  rintro e wx ⟨rfl, hwx⟩
  rw [hwx]
  clear hwx wx HN
  go_wp2
  go_ret
  exact ⟨rfl, rfl⟩
/-- What Records answers: the closure, and its box. -/
theorem wrecords_any (h : Blk w g 60 (lgCells p s most num vs vr size synced dead)) (hsh : ∃ A n c, vr = .slice A n c) :
    Calls Tryz.prog 68 #[.pointer (some ⟨g, 0, none⟩)] w fun e w' => e = .returned (.func (.func 114) #[] #[.pointer (some ⟨w.heap.size, 0, none⟩)]) ∧ Blk w' w.heap.size 27 #[vr] ∧ Below w.heap.size w w' := by
  have hmf : ∀ (fn : Fn) (first cap : Array Value) (w : World), (Instr.makeFunc fn first cap).run Tryz.prog w = .ok (.func fn first cap) w := fun _ _ _ _ => rfl
  have h1 : Blk (w.alloc (.cells #[.slice none 0 0] 27)) g 60 (lgCells p s most num vs vr size synced dead) := h.alloc _
  have c5 : (w.alloc (.cells #[.slice none 0 0] 27)).cell? ⟨g, 5, none⟩ = some vr := by rw [h1.cell]; rfl
  have HN := Lib.hid (wnone_any h1)
  have k0 : Blk (w.alloc (.cells #[.slice none 0 0] 27)) w.heap.size 27 #[.slice none 0 0] := Blk.new w _ _
  have q0 : (w.alloc (.cells #[.slice none 0 0] 27)).cell? ⟨w.heap.size, 0, none⟩ = some (.slice none 0 0) := by rw [k0.cell]; rfl
  have f0 := k0.frozen 0
  have HE := Lib.hid (show Blk (w.alloc (.cells #[vr] 27)) w.heap.size 27 #[vr] ∧ Below w.heap.size w (w.alloc (.cells #[vr] 27)) from ⟨Blk.new w _ _, al_one w _⟩)
  obtain ⟨Av, nv, cv, rfl⟩ := hsh
  clear h h1 k0
  go_enter Tryz.func68, Tryz.ntmps68
  go_wp2_with fail
  refine HN.out.mono ?_
  rintro e wx ⟨rfl, hwx⟩
  rw [hwx]
  clear hwx wx HN
  go_wp2
  go_ret
  exact ⟨rfl, HE.out⟩
end
end Go.Proofs.YtibifnknkphanaaGreatDoor

/-
  Records' walk over a log's records.
-/
namespace Go.Proofs.YtibifnknkphanaaGreatDoor
open Go.RowKit Go.Maps
open DskM WalM
set_option linter.unusedVariables false
set_option linter.unusedSimpArgs false
set_option maxRecDepth 20000
attribute [local go_sem] Oper.semAt_some

/-- A record that is handed over: its slice, its bytes. -/
abbrev RecV := Value × List UInt8
def encV (x : RecV) : Array Value := #[x.1]
/-- What a round over records leaves alone. -/
def KpR (hi bx : Nat) (T : Nat → Prop) (A B : World) : Prop := A.heap.size ≤ B.heap.size ∧ (∀ k cs, k < hi → Blk A k 5 cs → Blk B k 5 cs) ∧ B.heap[bx]? = A.heap[bx]? ∧ ∀ k, T k → B.heap[k]? = A.heap[k]?
theorem KpR.refl (hi bx : Nat) (T : Nat → Prop) (A : World) : KpR hi bx T A A := ⟨Nat.le_refl _, fun _ _ _ h => h, rfl, fun _ _ => rfl⟩
theorem KpR.trans {hi bx : Nat} {T : Nat → Prop} {A B C : World} (h : KpR hi bx T A B) (k : KpR hi bx T B C) : KpR hi bx T A C :=
  ⟨Nat.le_trans h.1 k.1, fun i cs hi' hb => k.2.1 i cs hi' (h.2.1 i cs hi' hb), k.2.2.1.trans h.2.2.1, fun i hi' => (k.2.2.2 i hi').trans (h.2.2.2 i hi')⟩
theorem KpR.of_below {hi bx : Nat} {T : Nat → Prop} {A B : World} (h : Below A.heap.size A B) (hbx : bx < A.heap.size) (hT : ∀ k, T k → k < A.heap.size) : KpR hi bx T A B :=
  ⟨h.size, fun k cs _ hb => hb.below h hb.lt, h.block _ hbx, fun k hk => h.block k (hT k hk)⟩
theorem KpR.of_keep {hi bx : Nat} {T U : Nat → Prop} {A B : World} (h : Keep U A B) (hbx : bx < A.heap.size) (hT : ∀ k, T k → k < A.heap.size) (hU : ∀ k, U k → k ≠ bx ∧ ¬ T k ∧ (k < hi → ∀ cs, ¬ Blk A k 5 cs)) : KpR hi bx T A B :=
  ⟨h.size, fun k cs hk hb => hb.kept h (fun e => (hU k e).2.2 hk cs hb), h.block _ hbx (fun e => (hU _ e).1 rfl), fun k hk => h.block k (hT k hk) (fun e => (hU k e).2.1 hk)⟩
/-- What the iterator's own steps are: new memory. -/
def StR (A B : World) : Prop := Below A.heap.size A B
theorem StR.quiet : Quiet StR := fun A B h => ⟨h.size, fun k o ho _ _ => (h.block k (Array.getElem?_eq_some_iff.1 ho).1).trans ho⟩
theorem Own.low {w : World} {B B' : Nat} {e : TypeId} {v : Value} {l : List UInt8} (h : Own w B e v l) (hB : B' ≤ B) : Own w B' e v l := by
  refine ⟨h.1, ?_⟩
  rcases h.2 with h | ⟨g, cap, cur, e1, e2, r⟩
  · exact .inl h
  · exact .inr ⟨g, cap, cur, e1, Nat.le_trans hB e2, r⟩
set_option maxHeartbeats 4000000 in
theorem rec_seq (n : Nat) (hn : 1 ≤ n) (T X : Nat → Prop) (bx : Nat) (v : Value) (ls : List (List UInt8)) (hl : ls.length ≤ 2000001) (hll : ∀ l ∈ ls, l.length ≤ 1000000000) (w : World) (hbx : Blk w bx 27 #[v]) (hT : ∀ k, T k → k < w.heap.size) (hv : RowT T X w v ls) :
    SeqX Fence.wide n Tryz.prog 114 #[.pointer (some ⟨bx, 0, none⟩)] encV (fun x W => Own W w.heap.size 5 x.1 x.2) StR (KpR w.heap.size bx T) (fun xs => xs.map (·.2) = ls) (fun pre => ∃ k, k ≤ ls.length ∧ pre.map (·.2) = ls.take k) ls.length w := by
  intro l J Jx W hW hJ hJx hY h0
  have HV := Lib.hid (show ∀ Y, KpR w.heap.size bx T W Y → Blk Y bx 27 #[v] ∧ RowT T X Y v ls from fun Y hY => ⟨hY.2.2.1.trans (hbx.below hW hbx.lt), hv.kept (fun k cs hx hb => ⟨hx, hY.2.1 k cs hb.lt (hb.below hW hb.lt)⟩) (fun k cs ht hb => ⟨ht, (hY.2.2.2 k ht).trans (hb.below hW hb.lt)⟩)⟩)
  have HB := Lib.hid (show bx < W.heap.size ∧ (∀ k, T k → k < W.heap.size) ∧ w.heap.size ≤ W.heap.size from ⟨Nat.lt_of_lt_of_le hbx.lt hW.size, fun k hk => Nat.lt_of_lt_of_le (hT k hk) hW.size, hW.size⟩)
  obtain ⟨A, c, vs, hvv, _⟩ := id hv
  subst hvv
  have q0 : W.cell? ⟨bx, 0, none⟩ = some (.slice A ls.length c) := by rw [(hbx.below hW hbx.lt).cell]; rfl
  have HJ := Lib.hid (And.intro hJ hJx)
  have HLL := Lib.hid hll
  clear hbx hv hJ hJx hW hT hll
  have HY := Lib.hid hY
  clear hY
  refine callsIn_of_wp Tryz.func114 rfl trivial ?_ rfl
  simp only [Tryz.ntmps114, List.size_toArray, List.length_cons, List.length_nil, Nat.reduceAdd, Nat.reduceSub, Array.replicate_succ, Array.replicate_zero, List.push_toArray, List.append_toArray, List.nil_append, List.cons_append]
  gi_wp2
  gi_loopw [7] (fun i wr => ∃ (k : Nat) (pre : List RecV), k ≤ ls.length ∧ i = .int .i64 (k : Int) ∧ pre.length = k ∧ pre.map (·.2) = ls.take k ∧ J pre wr ∧ KpR w.heap.size bx T W wr)
    (fun i _ => ls.length - (intOf i).toNat)
  case atStart => exact ⟨0, [], Nat.zero_le _, rfl, rfl, rfl, h0, KpR.refl _ _ _ _⟩
  case round =>
    obtain ⟨k, pre, hk, rfl, hpl, hpm, hJs, hnx⟩ := hrel
    by_cases hlt : k < ls.length
    · obtain ⟨hbx1, hv1⟩ := HV.out wr hnx
      obtain ⟨A', c', vs', e, h1, h2, h3, h4, h5⟩ := hv1
      injection e with e1 e2 e3
      subst e1 e3
      obtain ⟨r, o, C, rfl, _, hC, h6, h7⟩ : ∃ r o C, A = some ⟨r, o, none⟩ ∧ T r ∧ Blk wr r 22 C ∧ o + c ≤ C.size ∧ ∀ i, i < ls.length → C[o + i]? = vs'[i]? := by
        rcases h5 with ⟨_, e⟩ | h
        · omega
        · exact h
      have hk2 : k < vs'.length := by omega
      have hsl := (h4 k hlt hk2).sl
      obtain ⟨x, hx⟩ : ∃ x, x = ls[k] := ⟨_, rfl⟩
      rw [← hx] at hsl
      have hxl : x.length ≤ 1000000000 := by rw [hx]; exact HLL.out _ (List.getElem_mem hlt)
      have p1 : wr.cell? ⟨r, o + k, none⟩ = some vs'[k] := by rw [hC.cell, h7 k hlt, List.getElem?_eq_getElem hk2]
      generalize vs'[k] = vx at hsl p1
      obtain ⟨Ax, nx, cx, rfl⟩ := hsl.shape
      have HCL := Lib.hid (dclone_any _ x wr hsl hxl)
      have hpm1 : ∀ v', (pre ++ [((v' : Value), x)]).map (·.2) = ls.take (k + 1) := fun v' => by rw [List.map_append, hpm, List.take_succ_eq_append_getElem hlt, hx]; rfl
      have HPM := Lib.hid hpm1
      have HX := Lib.hid (And.intro hnx (And.intro hJs hpl))
      have HK := Lib.hid (And.intro hk hlt)
      have hltI : (k : Int) < (ls.length : Int) := by omega
      have hwk : IntKind.i64.wrap ((k : Int) + 1) = (k : Int) + 1 := by rw [IntKind.wrap_i64] <;> omega
      clear hx hsl hxl hbx1 h1 h2 h3 h4 h5 h6 h7 hC hk2 hpm hpm1 hnx hJs hpl q0 hk hlt
      gi_wp2_with fail
      refine ⟨trivial, (callsIn_wide.2 HCL.out).mono ?_⟩
      rintro e W2 ⟨v', rfl, ho2, hb2⟩
      obtain ⟨hnx, hJs, hpl⟩ := HX.out
      obtain ⟨hbxW, hTW, hwW⟩ := HB.out
      have hJ2 := HJ.out.1 _ _ _ hJs hb2
      obtain ⟨fn, tmps, assign, body, hy, hR⟩ := HY.out pre (v', x) W2 hJ2 (ho2.low (Nat.le_trans hwW hnx.1)) (by rw [hpl]; exact HK.out.2)
      have hk12 : KpR w.heap.size bx T W W2 := hnx.trans (KpR.of_below hb2 (Nat.lt_of_lt_of_le hbxW hnx.1) (fun k hk => Nat.lt_of_lt_of_le (hTW k hk) hnx.1))
      have HR := Lib.hid hR
      have H12 := Lib.hid (And.intro hk12 hpl)
      obtain ⟨A2, n2, c2, rfl⟩ := ho2.shape
      unfold encV at hy
      dsimp only at hy
      clear hk12 hR hJ2 hnx hJs hpl hbxW hTW hwW ho2 hb2 HCL
      gi_wp2
      refine HR.out.mono ?_
      rintro e W3 (⟨rfl, hJ3, hk3⟩ | ⟨rfl, hJx3⟩)
      · gi_wp2
        go_roundw
        case rel => exact ⟨k + 1, pre ++ [(_, x)], HK.out.2, by go_num, by rw [List.length_append, H12.out.2]; rfl, HPM.out _, hJ3, H12.out.1.trans hk3⟩
        case measure => have := HK.out; simp [intOf]; omega
      · gi_wp2
        refine bodyPost_ret (results_none rfl _ _ _) rfl ?_
        exact ⟨⟨_, rfl⟩, .inr ⟨_, ⟨k + 1, HK.out.2, HPM.out _⟩, hJx3⟩⟩
    · obtain rfl : k = ls.length := by omega
      gi_wp2
      go_end0
      exact ⟨⟨_, rfl⟩, .inl ⟨_, by rw [hpm, List.take_length], hJs⟩⟩
theorem recFn_enters : ∀ args w, (callFunc 114 args).run Tryz.prog w = .ok (.enter 114 args) w := enters_of Tryz.func114 (by kernel_rfl) rfl
/-- What Records answers, in whatever world behind this one. -/
def RecsOk (T X : Nat → Prop) (w : World) (a : Option Addr) (ls : List (List UInt8)) : Prop :=
  ∀ W, Below w.heap.size w W → Calls Tryz.prog 68 #[.pointer a] W fun e W' => e = .returned (.func (.func 114) #[] #[.pointer (some ⟨W.heap.size, 0, none⟩)]) ∧ (∃ v, Blk W' W.heap.size 27 #[v] ∧ RowT T X W' v ls) ∧ Below W.heap.size W W'
theorem LogAt.recsOk {T X : Nat → Prop} {w : World} {g p : Nat} {s : ByteArray} {most : Int} {L : Lg} (h : LogAt T X w g p s most L) : RecsOk T X w (some ⟨g, 0, none⟩) L.recs := fun W hb => by
  have h' : LogAt T X W g p s most L := h.kept (fun k cs hx hk => ⟨hx, hk.below hb hk.lt⟩) (fun k t cs ht hk => ⟨ht, hk.below hb hk.lt⟩)
  obtain ⟨vs, vr, hbg, _, _, hr⟩ := h'
  obtain ⟨A, c, vv, hvr, _⟩ := id hr
  refine (wrecords_any hbg ⟨A, _, c, hvr⟩).mono ?_
  rintro e W' ⟨rfl, hbx, hb'⟩
  exact ⟨rfl, ⟨vr, hbx, hr.kept (fun k cs hx hk => ⟨hx, hk.below hb' hk.lt⟩) (fun k cs ht hk => ⟨ht, hk.below hb' hk.lt⟩)⟩, hb'⟩
theorem recsOk_no {w : World} {a : Option Addr} (hn : ∀ W, Below w.heap.size w W → Calls Tryz.prog 69 #[.pointer a] W fun e w' => e = .returned (.bool true) ∧ w' = W) (T X : Nat → Prop) : RecsOk T X w a [] := fun W hb => by
  have hmf : ∀ (fn : Fn) (first cap : Array Value) (w : World), (Instr.makeFunc fn first cap).run Tryz.prog w = .ok (.func fn first cap) w := fun _ _ _ _ => rfl
  have hb1 : Below W.heap.size W (W.alloc (.cells #[.slice none 0 0] 27)) := al_one W _
  have HN := Lib.hid (hn _ (hb.trans (hb1.mono hb.size)))
  have HE := Lib.hid (And.intro (Blk.new W 27 #[.slice none 0 0]) hb1)
  clear hn hb hb1
  go_enter Tryz.func68, Tryz.ntmps68
  go_wp2_with fail
  refine HN.out.mono ?_
  rintro e wx ⟨rfl, hwx⟩
  rw [hwx]
  clear hwx wx HN
  go_wp2
  go_ret
  exact ⟨rfl, ⟨_, HE.out.1, RowT.nil _ _ _⟩, HE.out.2⟩
end Go.Proofs.YtibifnknkphanaaGreatDoor

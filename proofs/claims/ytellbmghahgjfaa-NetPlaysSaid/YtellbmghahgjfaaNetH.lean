/-
  All of lines: what its iterator hands over, one flight behind the other.
-/
import Derived.Test.YtellbmghahgjfaaNetG
import Derived.Test.YtellbmghahgjfaaNetR
import Derived.Sort.MapsRangeIn
import Derived.RangeFuncSeq
import Derived.RangeFuncGives
import Derived.OwnWalkIn
import Derived.TacticsInMore
import Derived.RegionIn
import Derived.LoopNIn
import Derived.LoopIn
namespace Go.Proofs.Ytellbmghahgjfaa
open Go.RowKit Go.Maps Go.WideShapes Go.WideMaps
open NetM
set_option linter.unusedVariables false
set_option linter.unusedSimpArgs false
set_option maxRecDepth 20000
attribute [local go_sem] Oper.semAt_some

theorem upTo_mono {α : Type} (L : List (Fl α)) : ∀ {m n : Nat}, m ≤ n → upTo L m <+: upTo L n
  | m, 0, h => by obtain rfl : m = 0 := by omega
                  exact List.prefix_refl _
  | m, n + 1, h => by
    rcases Nat.lt_or_ge m (n + 1) with h1 | h1
    · rw [upTo_succ]
      exact (upTo_mono L (by omega : m ≤ n)).trans (List.prefix_append _ _)
    · obtain rfl : m = n + 1 := by omega
      exact List.prefix_refl _
theorem few_all {α : Type} {L : List (Fl α)} (hr : ∀ f ∈ L, InR 16 f.p) (hf : ∀ q, (lineOf L q).length ≤ 64) : L.length ≤ 16384 := by
  have hn : ((List.range 256).map key).Nodup := by
    rw [List.nodup_iff_pairwise_ne, List.pairwise_map]
    exact List.pairwise_lt_range.imp fun h => (key_lt h).ne
  have := sum_lines _ L hn fun f hf => by
    obtain ⟨k, hk, e⟩ := (hr f hf).key
    rw [e]
    exact List.mem_map.2 ⟨k, List.mem_range.2 hk, rfl⟩
  rw [← this]
  have hle : ∀ (ks : List Pr), (ks.map fun p => (lineOf L p).length).sum ≤ 64 * ks.length := by
    intro ks
    induction ks with
    | nil => simp
    | cons k ks ih =>
      rw [List.map_cons, List.sum_cons, List.length_cons]
      have := hf k
      omega
  have := hle ((List.range 256).map key)
  simpa using this
/-- The lines that a map is, or a nil one. -/
structure Ls (w : World) (m : Option Nat) (K : Kl) (V : List (Fl Pl)) (G : Nat → Prop) : Prop where
  src : (∃ b, m = some b ∧ w.ownsMap Try.prog 61 heldR b K.length (MD svD K)) ∨ (m = none ∧ K = [])
  ok : OkL K
  row : ∀ q, SlK kSl w (sv (lineAt K q)) ((lineOf V q).map Prod.fst)
  by_ : ∀ f ∈ V, Sl w (sv f.x.1) f.x.2
  inl : ∀ q i, InB (lineAt K q) i → G i
  inb : ∀ f ∈ V, ∀ i, InB f.x.1 i → G i
  glt : ∀ i, G i → i < w.heap.size
  sorted : Sorted V
  inr : ∀ f ∈ V, InR 16 f.p
  lens : ∀ f ∈ V, f.x.2.length ≤ 1048576
  full : ∀ q, (lineOf V q).length ≤ 64
section
variable {w w' : World} {p b : Nat} {E lost : Int} {m : Option Nat} {K : Kl} {V : List (Fl Pl)} {G : Nat → Prop}
theorem Nt.ls (h : Nt w p b E lost K V G) : Ls w (some b) K V G :=
  ⟨.inl ⟨b, rfl, h.map⟩, h.ok, h.row, h.by_, h.inl, h.inb, h.glt, h.sorted, fun f hf => (h.inr f hf).mono h.ends.2, h.lens, h.full⟩
theorem Ls.none (w : World) : Ls w none [] [] (fun _ => False) :=
  ⟨.inr ⟨rfl, rfl⟩, OkL.nil, fun q => SlK.nil _ _, by simp, (by rintro q i ⟨a, ha, _⟩; cases ha), by simp, (fun i h => h.elim), List.Pairwise.nil, by simp, by simp, (by intro q; simp [lineOf])⟩
theorem Ls.kept {S : Nat → Prop} (h : Ls w m K V G) (k : Keep S w w') (hb : ∀ b, m = some b → ¬ S b) (hG : ∀ i, G i → ¬ S i) : Ls w' m K V G :=
  ⟨by
    rcases h.src with ⟨b, rfl, hm⟩ | h0
    · exact .inl ⟨b, rfl, ownsMap_keep hm k (hb b rfl)⟩
    · exact .inr h0, h.ok, fun q => InB.slk (h.row q) k fun i hi => hG i (h.inl q i hi), fun f hf => InB.sl (h.by_ f hf) k fun i hi => hG i (h.inb f hf i hi), h.inl, h.inb,
   fun i hi => Nat.lt_of_lt_of_le (h.glt i hi) k.size, h.sorted, h.inr, h.lens, h.full⟩
theorem Ls.below (h : Ls w m K V G) (hb : Below w.heap.size w w') : Ls w' m K V G := h.kept (S := fun _ => False) (.of_below hb) (fun _ _ h => h) (fun _ _ h => h)
theorem Ls.look (h : Ls w m K V G) {q : Pr} (hq : OkP q) : (Instr.lookup 53 (.map m) (pval q) false).run Try.prog w = .ok (sv (lineAt K q)) w := by
  rcases h.src with ⟨b, rfl, hm⟩ | ⟨rfl, rfl⟩
  · obtain ⟨v, ps, hrun, hv⟩ := hm.lookup prK Try.underlying53 (zeroLn w) (zd := svD nilS) (zp := []) rfl (keyOf_pr hq)
    unfold heldR at hv
    injection hv with hv
    injection hv with e _
    have : v = sv (lineAt K q) := by
      by_cases hm : q ∈ K.map Prod.fst
      · rw [atKey_MD h.ok (lineAt_mem hm)] at e
        injection e
      · rw [atKey_MD_none h.ok hq hm] at e
        rw [lineAt_none hm]
        injection e
    rw [hrun, this]
  · exact look_nilmap q hq w
theorem Ls.len (h : Ls w m K V G) (q : Pr) : (lineAt K q).2.1 = (lineOf V q).length := by
  obtain ⟨A, c, e, _⟩ := h.row q
  unfold sv at e
  injection e with _ e2 _
  rw [e2, List.length_map]
theorem Ls.few (h : Ls w m K V G) : V.length ≤ 16384 := few_all h.inr h.full
/-- A flight and its place, as they are handed over. -/
abbrev Pf := Nat × Fl Sv
def encF (x : Pf) : Array Value := #[.int .i64 (x.1 : Int), .agg #[.int .i64 x.2.p.1, .int .i64 x.2.p.2, sv x.2.x]]
def pfOf (i : Nat) (f : Fl Pl) : Pf := (i, ⟨f.p, f.x.1⟩)
/-- All flights with their places. -/
def enumF (L : List (Fl Pl)) : List Pf := L.mapIdx pfOf
theorem enumF_len (L : List (Fl Pl)) : (enumF L).length = L.length := List.length_mapIdx
theorem enumF_snoc (L : List (Fl Pl)) (f : Fl Pl) : enumF (L ++ [f]) = enumF L ++ [pfOf L.length f] := by
  unfold enumF
  rw [List.mapIdx_concat]
theorem enumF_pre {L M : List (Fl Pl)} (h : L <+: M) : enumF L <+: enumF M := by
  obtain ⟨t, rfl⟩ := h
  unfold enumF
  rw [List.mapIdx_append]
  exact List.prefix_append _ _
/-- The lines, with the box that holds them. -/
def LsAt (w : World) (bx : Nat) (m : Option Nat) (K : Kl) (V : List (Fl Pl)) (G : Nat → Prop) : Prop := Ls w m K V G ∧ w.cell? ⟨bx, 0, none⟩ = some (.map m)
/-- What comes next behind these. -/
def NextF (V : List (Fl Pl)) (pre : List Pf) (x : Pf) : Prop := ∃ f, V[pre.length]? = some f ∧ x = pfOf pre.length f
set_option maxHeartbeats 4000000 in
theorem allL_in (n : Nat) (hn1 : 1 ≤ n) (l bx : Nat) (Kp : World → World → Prop) (J Jx : List Pf → World → Prop) (W : World)
    (hY : ∀ pre x W1, J pre W1 → NextF V pre x → pre.length < V.length → YieldAt Fence.wide (n - 1) Try.prog l (encF x) W1 fun e W' => (e = .returned (.bool true) ∧ J (pre ++ [x]) W' ∧ Kp W1 W') ∨ (e = .returned (.bool false) ∧ Jx (pre ++ [x]) W'))
    (hKp : ∀ X Y, Kp X Y → LsAt X bx m K V G → LsAt Y bx m K V G) (hL : LsAt W bx m K V G) (h0 : J [] W) :
    CallsIn Fence.wide n Try.prog 53 #[.func (.yield l) #[] #[], .pointer (some ⟨bx, 0, none⟩)] W fun e W' => (∃ v, e = .returned v) ∧ ((∃ xs, xs = enumF V ∧ J xs W') ∨ (∃ pre, pre <+: enumF V ∧ Jx pre W')) := by
  have hfew := hL.1.few
  have hall : upTo V 256 = V := upTo_all hL.1.sorted hL.1.inr
  have hm := hL.2
  refine callsIn_of_wp Try.func53 rfl trivial ?_ rfl
  simp only [Try.ntmps53, List.size_toArray, List.length_cons, List.length_nil, Nat.reduceAdd, Nat.reduceSub, Array.replicate_succ, Array.replicate_zero, List.push_toArray, List.append_toArray, List.nil_append, List.cons_append]
  gi_wp2
  gi_loopw [3, 4] (fun pl fr wr => ∃ i : Nat, i ≤ 16 ∧ fr = .int .i64 ((i : Int) + 1) ∧ pl = .int .i64 ((upTo V (16 * i)).length : Int) ∧ LsAt wr bx m K V G ∧ J (enumF (upTo V (16 * i))) wr)
    (fun _ fr _ => (17 - intOf fr).toNat)
  case atStart => exact ⟨0, by omega, rfl, rfl, hL, h0⟩
  case round =>
    obtain ⟨i, hi, rfl, rfl, hk, hJ⟩ := hrel
    by_cases hlt : i < 16
    · clear hi
      have hdi : decide ((i : Int) + 1 ≤ 16) = true := decide_eq_true (by omega)
      gi_wp2
      gi_loopw [3, 5] (fun pl to wr => ∃ j : Nat, j ≤ 16 ∧ to = .int .i64 ((j : Int) + 1) ∧ pl = .int .i64 ((upTo V (16 * i + j)).length : Int) ∧ LsAt wr bx m K V G ∧ J (enumF (upTo V (16 * i + j))) wr)
        (fun _ to _ => (17 - intOf to).toNat)
      case atStart => exact ⟨0, by omega, rfl, rfl, hk, hJ⟩
      case round =>
        clear hk hJ
        obtain ⟨j, hj, rfl, rfl, hk, hJ⟩ := hrel
        by_cases hjt : j < 16
        · clear hj
          have hdj : decide ((j : Int) + 1 ≤ 16) = true := decide_eq_true (by omega)
          have hkey := key_at i j hjt
          have hsucc := upTo_succ V (16 * i + j)
          have hpre := upTo_mono V (show 16 * i + j + 1 ≤ 256 by omega)
          rw [hall, hsucc] at hpre
          obtain ⟨q, hq⟩ : ∃ q, key (16 * i + j) = q := ⟨_, rfl⟩
          rw [hq] at hkey hpre hsucc
          have hok : OkP q := by rw [hkey]; unfold OkP; simp only; omega
          obtain ⟨T, hT⟩ : ∃ T, upTo V (16 * i + j) = T := ⟨_, rfl⟩
          rw [hT] at hJ hpre hsucc ⊢
          have HS := Lib.hid (And.intro hsucc hT)
          have HP := Lib.hid hpre
          have hTl : T.length ≤ 16384 := by
            have := hpre.length_le
            rw [List.length_append] at this
            omega
          clear hsucc hT hq hpre
          obtain ⟨hls, hcell⟩ := hk
          have hlk := hls.look hok
          obtain ⟨⟨A, nn, cc⟩, hv⟩ : ∃ s, lineAt K q = s := ⟨_, rfl⟩
          have hn := hls.len q
          rw [hv] at hlk hn
          simp only [pval, sv] at hlk
          rw [hkey] at hlk
          simp only at hlk
          have HN := Lib.hid (show nn = (lineOf V q).length from hn)
          have HV := Lib.hid (And.intro hv (And.intro hkey hok))
          have hnb : nn ≤ 64 := by have := hls.full q; have := HN.out; omega
          have hk : LsAt wr bx m K V G := ⟨hls, hcell⟩
          clear hn hv hkey hok hls
          gi_wp2
          gi_loopw [3, 22] (fun pl kk wr => ∃ k : Nat, k ≤ nn ∧ kk = .int .i64 (k : Int) ∧ pl = .int .i64 ((T ++ (ofKey V q).take k).length : Int) ∧ LsAt wr bx m K V G ∧ J (enumF (T ++ (ofKey V q).take k)) wr)
            (fun _ kk _ => (nn - intOf kk).toNat)
          case atStart => exact ⟨0, by omega, rfl, by simp, hk, by simpa using hJ⟩
          case round =>
            clear hk hJ hcell hlk
            obtain ⟨k, hk0, rfl, rfl, hk, hJ⟩ := hrel
            by_cases hkt : k < nn
            · clear hk0
              have hls := hk.1
              have hR := hls.row q
              rw [HV.out.1] at hR
              simp only [sv] at hR
              have hkl : k < (lineOf V q).length := by rw [← HN.out]; exact hkt
              obtain ⟨b0, o0, rfl, hx⟩ := hR.at_ k (by rw [List.length_map]; exact hkl)
              obtain ⟨⟨⟨s0, s1, s2⟩, bs⟩, hf⟩ : ∃ f, (lineOf V q)[k] = f := ⟨_, rfl⟩
              have hcl : wr.cell? ⟨b0, o0 + k, none⟩ = some (.slice s0 s1 s2) := by
                have h0 := hx 0 (by decide)
                have e : o0 + (k * kSl.sz + 0) = o0 + k := by show o0 + (k * 1 + 0) = _; omega
                rw [e] at h0
                rw [h0]; simp [kSl, hf, sv]
              have hok : (ofKey V q).length = (lineOf V q).length := by rw [ofKey_line, List.length_map]
              have hof : (ofKey V q).take (k + 1) = (ofKey V q).take k ++ [⟨q, ((s0, s1, s2), bs)⟩] := by
                rw [List.take_succ_eq_append_getElem (by omega)]
                congr 1
                simp only [ofKey_line, List.getElem_map, hf]
              have hpre : (T ++ (ofKey V q).take k) ++ [⟨q, ((s0, s1, s2), bs)⟩] <+: V := by
                rw [List.append_assoc, ← hof]
                exact (List.prefix_append_right_inj T |>.2 (List.take_prefix _ _)).trans HP.out
              obtain ⟨pre, hpr⟩ : ∃ pre, T ++ (ofKey V q).take k = pre := ⟨_, rfl⟩
              rw [hpr] at hJ hpre ⊢
              have hsn : T ++ (ofKey V q).take (k + 1) = pre ++ [⟨q, ((s0, s1, s2), bs)⟩] := by rw [hof, ← List.append_assoc, hpr]
              have hVat : V[pre.length]? = some ⟨q, ((s0, s1, s2), bs)⟩ := by
                obtain ⟨t, ht⟩ := hpre
                rw [← ht, List.append_assoc, List.getElem?_append_right (Nat.le_refl _), Nat.sub_self]; rfl
              have hlen : pre.length < V.length := (List.getElem?_eq_some_iff.1 hVat).1
              obtain ⟨fn, tmps, assign, body, hy, hR2⟩ := hY (enumF pre) (pfOf pre.length ⟨q, ((s0, s1, s2), bs)⟩) wr hJ ⟨_, by rw [enumF_len]; exact hVat, by rw [enumF_len]⟩ (by rw [enumF_len]; exact hlen)
              rw [← enumF_snoc, ← hsn] at hR2
              simp only [encF, pfOf, sv] at hy
              rw [HV.out.2.1] at hy
              simp only at hy
              have HQ := Lib.hid hsn
              have HPX := Lib.hid (show enumF (pre ++ [⟨q, ((s0, s1, s2), bs)⟩]) <+: enumF V from enumF_pre hpre)
              have hk64 : (k : Int) < 64 := by omega
              have hpl : pre.length ≤ 16384 := by omega
              have hpn : (pre ++ [(⟨q, ((s0, s1, s2), bs)⟩ : Fl Pl)]).length = pre.length + 1 := by simp
              rw [hsn] at hR2
              clear hpr hsn hof hok hpre hVat hx hls hR hf hkl hlen
              generalize hpp : pre.length = pl at hy hpl hpn ⊢
              have HPP := Lib.hid (And.intro hpp hpn)
              clear hpp hpn
              gi_wp2
              refine hR2.mono ?_
              rintro e W3 (⟨rfl, hJ4, hk4⟩ | ⟨rfl, hJx4⟩)
              · clear hy hcl
                gi_wp2
                go_roundw
                case rel => exact ⟨k + 1, by omega, by go_num, by rw [HQ.out, HPP.out.2]; go_num, hKp _ _ hk4 hk, by rw [HQ.out]; exact hJ4⟩
                case measure => simp [intOf]; omega
              · gi_wp2
                refine bodyPost_ret (results_none rfl _ _ _) rfl ?_
                exact ⟨⟨_, rfl⟩, .inr ⟨_, HPX.out, hJx4⟩⟩
            · obtain rfl : k = nn := by omega
              have e : T ++ (ofKey V q).take k = upTo V (16 * i + j + 1) := by
                rw [HS.out.1, List.take_of_length_le]
                rw [ofKey_line, List.length_map, HN.out]; exact Nat.le_refl _
              rw [e] at hJ ⊢
              generalize hlen : (upTo V (16 * i + j + 1)).length = len
              have HL := Lib.hid hlen
              clear hlen e
              gi_wp2
              go_roundw
              case rel => exact ⟨j + 1, by omega, by go_num, by rw [← HL.out]; rfl, hk, hJ⟩
              case measure => simp [intOf]; omega
        · obtain rfl : j = 16 := by omega
          have e : upTo V (16 * i + 16) = upTo V (16 * (i + 1)) := by rw [show 16 * i + 16 = 16 * (i + 1) by omega]
          rw [e] at hJ ⊢
          generalize hlen : (upTo V (16 * (i + 1))).length = len
          have HL := Lib.hid hlen
          clear hlen e
          gi_wp2
          go_roundw
          case rel => exact ⟨i + 1, by omega, by go_num, by rw [← HL.out], hk, hJ⟩
          case measure => simp [intOf]; omega
    · obtain rfl : i = 16 := by omega
      rw [show 16 * 16 = 256 from rfl, hall] at hJ
      generalize (upTo V (16 * 16)).length = len
      gi_wp2
      go_end0
      exact ⟨⟨_, rfl⟩, .inl ⟨_, rfl, hJ⟩⟩
/-- What a round leaves alone: all below B and all cells, but those of S. -/
structure Kq (B : Nat) (S : Nat → Obj → Prop) (w w' : World) : Prop where
  size : w.heap.size ≤ w'.heap.size
  keep : ∀ k o, w.heap[k]? = some o → ¬ S k o → (k < B ∨ o.isCells = true) → w'.heap[k]? = some o
theorem Kq.refl (B : Nat) (S : Nat → Obj → Prop) (w : World) : Kq B S w w := ⟨Nat.le_refl _, fun _ _ h _ _ => h⟩
theorem Kq.trans {B : Nat} {S : Nat → Obj → Prop} {a b c : World} (h : Kq B S a b) (k : Kq B S b c) : Kq B S a c := ⟨Nat.le_trans h.size k.size, fun i o ho hn hb => k.keep i o (h.keep i o ho hn hb) hn hb⟩
theorem Kq.mono {B C : Nat} {S T : Nat → Obj → Prop} (h : Kq B S w w') (hC : C ≤ B) (hT : ∀ k o, S k o → T k o) : Kq C T w w' := ⟨h.size, fun k o ho hn hb => h.keep k o ho (fun hs => hn (hT k o hs)) (hb.imp (fun h => by omega) id)⟩
theorem Kq.put {B : Nat} {S : Nat → Obj → Prop} (W : World) (l : Nat) (o o' : Obj) (hB : B ≤ l) (ho : W.heap[l]? = some o) (hc : o.isCells = false) : Kq B S W (W.putObj l o') :=
  ⟨Nat.le_of_eq (by unfold World.putObj; simp), fun k u hu hn hb => by
    by_cases e : k = l
    · subst e
      rw [ho] at hu
      injection hu with hu
      subst hu
      rcases hb with h | h
      · omega
      · rw [hc] at h; cases h
    · exact (World.putObj_heap_other e).trans hu⟩
theorem Kq.of_below {B : Nat} {S : Nat → Obj → Prop} (h : Below w.heap.size w w') : Kq B S w w' := ⟨h.size, fun k o ho _ _ => (h.block k (Array.getElem?_eq_some_iff.1 ho).1).trans ho⟩
/-- A step that turns one block, of S. -/
theorem Kq.of_grown {B g : Nat} {S : Nat → Obj → Prop} (h : w.grownBy w' (some g)) (hS : ∀ o, w.heap[g]? = some o → S g o) : Kq B S w w' :=
  ⟨h.size, fun k o ho hn _ => by
    by_cases e : k = g
    · subst e; exact absurd (hS o ho) hn
    · exact (h.block k (Array.getElem?_eq_some_iff.1 ho).1 (fun e' => e (by injection e'))).trans ho⟩
theorem Kq.blk {B g : Nat} {S : Nat → Obj → Prop} {t : TypeId} {cs : Array Value} (k : Kq B S w w') (h : Blk w g t cs) (hn : ¬ S g (.cells cs t (0, 0))) : Blk w' g t cs := k.keep g _ h hn (.inr rfl)
theorem Kq.cell {B : Nat} {S : Nat → Obj → Prop} (k : Kq B S w w') {p : Addr} {u : Value} (hu : w.cell? p = some u) (hn : ∀ o, w.heap[p.block]? = some o → ¬ S p.block o) (hb : p.block < B) : w'.cell? p = some u := by
  have hlt := World.block_lt_of_cell? w p hu
  obtain ⟨o, ho⟩ : ∃ o, w.heap[p.block]? = some o := ⟨_, Array.getElem?_eq_getElem hlt⟩
  exact (World.cell?_of_block ((k.keep _ o ho (hn o ho) (.inl hb)).trans ho.symm)).trans hu
/-- The lines stay, where they lie below B and are none of S. -/
theorem Kq.ls {B : Nat} {S : Nat → Obj → Prop} (k : Kq B S w w') (h : Ls w m K V G) (hb : ∀ b, m = some b → b < B ∧ ∀ o, ¬ S b o) (hG : ∀ i, G i → i < B ∧ ∀ o, ¬ S i o) : Ls w' m K V G := by
  have hk : ∀ i, i < w.heap.size → i < B → (∀ o, ¬ S i o) → w'.heap[i]? = w.heap[i]? := fun i hi hB hn => by
    obtain ⟨o, ho⟩ : ∃ o, w.heap[i]? = some o := ⟨_, Array.getElem?_eq_getElem hi⟩
    rw [ho]
    exact k.keep i o ho (hn o) (.inl hB)
  have hsl : ∀ (s : Sv) (l : List UInt8), Sl w (sv s) l → (∀ i, InB s i → G i) → Sl w' (sv s) l := by
    rintro s l ⟨A, c, e, hc, ha⟩ hg
    have e' := e
    unfold sv at e'
    injection e' with e1 e2 e3
    refine ⟨A, c, e, hc, fun h0 => ?_⟩
    obtain ⟨b, o, rfl, hx⟩ := ha h0
    have hgb := hg b ⟨_, e1, rfl⟩
    exact ⟨b, o, rfl, fun j hj => (World.cell?_of_block (hk b (World.block_lt_of_cell? w ⟨b, o + j, none⟩ (hx j hj)) (hG b hgb).1 (hG b hgb).2)).trans (hx j hj)⟩
  refine ⟨?_, h.ok, fun q => ?_, fun f hf => hsl _ _ (h.by_ f hf) (h.inb f hf), h.inl, h.inb, fun i hi => Nat.lt_of_lt_of_le (h.glt i hi) k.size, h.sorted, h.inr, h.lens, h.full⟩
  · rcases h.src with ⟨b, rfl, hm⟩ | h0
    · have hlt := hm.lt
      obtain ⟨es, clock, hh, F, hs, hD⟩ := hm
      exact .inl ⟨b, rfl, es, clock, (hk b hlt (hb b rfl).1 (hb b rfl).2).trans hh, F, hs, hD⟩
    · exact .inr h0
  · obtain ⟨A, c, e, hc, ha⟩ := h.row q
    have e' := e
    unfold sv at e'
    injection e' with e1 e2 e3
    refine ⟨A, c, e, hc, fun h0 => ?_⟩
    obtain ⟨b, o, rfl, hx⟩ := ha h0
    have hgb := h.inl q b ⟨_, e1, rfl⟩
    exact ⟨b, o, rfl, fun j u hu => (World.cell?_of_block (hk b (World.block_lt_of_cell? w ⟨b, o + j, none⟩ (hx j u hu)) (hG b hgb).1 (hG b hgb).2)).trans (hx j u hu)⟩
end
end Go.Proofs.Ytellbmghahgjfaa

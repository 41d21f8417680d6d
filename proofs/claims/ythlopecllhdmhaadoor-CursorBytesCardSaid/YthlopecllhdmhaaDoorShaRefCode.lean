/-
  The walk of the document's Code.
-/
import Derived.Test.YthlopecllhdmhaaDoorShaRefSum
import Derived.Test.YthlopecllhdmhaaDoorShaCode
namespace Go.Proofs.YthlopecllhdmhaaDoor
open Go.RowKit
set_option linter.unusedVariables false
set_option linter.unusedSimpArgs false

/-- Two rows that share no block. -/
def Apt (u v : Value) : Prop := ∀ g, u.ownBlock = some g → v.ownBlock ≠ some g
theorem Apt.symm {u v : Value} (h : Apt u v) : Apt v u := fun g h1 h2 => h g h2 h1
theorem Apt.nil (v : Value) : Apt (.slice none 0 0) v := fun g h => by simp [Value.ownBlock] at h
theorem Own.keptA {w w' : World} {base : Nat} {e : TypeId} {u v : Value} {l : List UInt8} (h : Own w base e u l) (hg : w.grownBy w' v.ownBlock) (ha : Apt u v) : Own w' base e u l := by
  refine World.ownsRow.kept h hg ?_
  cases hu : u.ownBlock with
  | none => exact .inl rfl
  | some g => exact .inr (fun e => ha g hu e.symm)
theorem Apt.step {w : World} {base : Nat} {e : TypeId} {u v v' : Value} {l : List UInt8} (ha : Apt u v) (h : Own w base e u l) (n : Nat) (hn : n = w.heap.size) (hv : v'.ownBlock = v.ownBlock ∨ v'.ownBlock = some n) : Apt u v' := by
  subst hn
  intro g hu
  rcases hv with hv | hv
  · rw [hv]; exact ha g hu
  · rw [hv]
    intro e
    injection e with e
    have := (World.ownsRow.lt h g hu).2
    omega

section
variable {P : Program} (w : World)
/-- Bytes appended to a row of the call's own: what else lies there stays. -/
theorem run_append_bytesA (base : Nat) (t ty e : TypeId) (i : TypeInfo) (ht : P.underlying t = some (.slice e)) (hi : P.info? e = some i) (hz : i.zero = some (.int .u8 0))
    (hsize : i.size = 1) (hby : i.bytes = 1) (v : Value) (l : List UInt8) (hown : Own w base e v l)
    (v2 : Value) (m : List UInt8) (hm : Sl w v2 m) (hlen : l.length + m.length ≤ 1000000000) (hbase : base ≤ w.heap.size) :
    ∃ v' w', (Builtin.append_ #[t, t] ty #[v, v2]).run P w = .ok v' w' ∧ Own w' base e v' (l ++ m) ∧ w.grownBy w' v.ownBlock ∧ (v'.ownBlock = v.ownBlock ∨ v'.ownBlock = some w.heap.size) ∧ Below base w w' := by
  obtain ⟨A, c, rfl, hc, ha⟩ := hm
  rcases A with _ | ad
  · have h0 : m = [] := by
      rcases Nat.eq_zero_or_pos m.length with h0 | h0
      · exact List.eq_nil_of_length_eq_zero h0
      · obtain ⟨b, o, h, _⟩ := ha h0
        cases h
    subst h0
    exact ⟨v, w, run_append_of_nil w base t ty e i 1 ht hi v _ _ hown c, by rw [List.append_nil]; exact hown, grown_refl w _, .inl rfl, Below.refl _ _⟩
  · have hcells : ∀ j u, (m.map bv)[j]? = some u → w.cell? (ad.add j) = some u := by
      intro j u hu
      have hj : j < m.length := by
        have := (List.getElem?_eq_some_iff.1 hu).1
        simpa using this
      obtain ⟨b, o, h, hx⟩ := ha (by omega)
      injection h with h
      subst h
      rw [add_plain, hx j hj, ← hu]
      simp [List.getElem?_eq_getElem hj, bv]
    obtain ⟨v', w', hrun, h2, h3, _, h5⟩ := run_append_own_at (P := P) w base t ty e i (.int .u8 0) 1 1 ht hi hz hsize hby rfl (by decide) v l.length (l.map bv) hown ad m.length c (m.map bv) (by simp) hcells
      (by intro u hu; obtain ⟨c, _, rfl⟩ := List.mem_map.1 hu; rfl) (by unfold maxLen; omega) (by omega) hbase
    refine ⟨v', w', hrun, by unfold Own; rw [List.length_append, List.map_append]; exact h2, h3, h5, ?_⟩
    exact (Below.refl base w).grown h3 hbase (fun k hk => (World.ownsRow.lt hown k hk).1)

theorem wpList_append_bytesA {ops : Array Oper} {rest : List Oper} {o : Oper} {a : Act} {Q : Exit → Act → World → Prop} (hgd : o.guard = none) (s x : Operand) (t : TypeId)
    (ho : o.op = .call { callee := .builtin .append, args := #[s, x], argTypes := #[t, t] })
    (base : Nat) (e : TypeId) (i : TypeInfo) (ht : P.underlying t = some (.slice e)) (hi : P.info? e = some i) (hz : i.zero = some (.int .u8 0))
    (hsize : i.size = 1) (hby : i.bytes = 1) (v : Value) (l : List UInt8) (hs : a.eval s = v) (hown : Own w base e v l)
    (v2 : Value) (m : List UInt8) (hx : a.eval x = v2) (hm : Sl w v2 m) (hlen : l.length + m.length ≤ 1000000000) (hbase : base ≤ w.heap.size)
    (h : ∀ v' w', Own w' base e v' (l ++ m) → w.grownBy w' v.ownBlock → (v'.ownBlock = v.ownBlock ∨ v'.ownBlock = some w.heap.size) → Below base w w' → wpList P ops Q rest (a.put o.dst v') w') : wpList P ops Q (o :: rest) a w := by
  refine wpList_plain hgd fun K hK => ?_
  obtain ⟨v', w', hr, h2, h3, h4, h5⟩ := run_append_bytesA (P := P) w base t o.type e i ht hi hz hsize hby v l hown v2 m hm hlen hbase
  unfold Oper.wp execOp
  simp only [ho, resolve, invoke, builtin, Sem.run_bind, Sem.run_pure, Result.andThen_ok, List.map_toArray, List.map_cons, List.map_nil, hs, hx, hr]
  exact hK _ _ (h v' w' h2 h3 h4 h5)
end

/-- A secret with k noughts behind it. -/
def padS (s : List UInt8) (k : Nat) : List UInt8 := s ++ List.replicate k 0
theorem padS_zero (s : List UInt8) : padS s 0 = s := by simp [padS]
theorem padS_succ (s : List UInt8) (k : Nat) : padS s k ++ [0] = padS s (k + 1) := by simp [padS, List.replicate_succ']
theorem padS_length (s : List UInt8) (k : Nat) : (padS s k).length = s.length + k := by simp [padS]
theorem padS_key (l : List UInt8) : padS (shortN l) (64 - (shortN l).length) = keyN l := (keyN_short l).symm
/-- The first k bytes of a key, masked. -/
def mk (m : UInt8) (K : List UInt8) (k : Nat) : List UInt8 := maskN m (K.take k)
theorem mk_zero (m : UInt8) (K : List UInt8) : mk m K 0 = [] := by simp [mk, maskN]
theorem mk_succ (m : UInt8) (K : List UInt8) (k : Nat) (h : k < K.length) : mk m K k ++ [K[k] ^^^ m] = mk m K (k + 1) := by
  unfold mk; rw [take_snoc K k h, maskN, maskN, List.map_append]; rfl
theorem mk_length (m : UInt8) (K : List UInt8) (k : Nat) (h : k ≤ K.length) : (mk m K k).length = k := by simp [mk, maskN]; omega
theorem mk_done (m : UInt8) (K : List UInt8) (n : Nat) (h : K.length = n) : mk m K n = maskN m K := by unfold mk; rw [← h, List.take_length]
theorem xor54 (c : UInt8) : bits .xor .u8 (c.toNat : Int) 54 = ((c ^^^ 54).toNat : Int) := xor_spell c 54
theorem xor92 (c : UInt8) : bits .xor .u8 (c.toNat : Int) 92 = ((c ^^^ 92).toNat : Int) := xor_spell c 92

set_option maxHeartbeats 2000000 in
theorem refCode_any (v v2 : Value) (l m : List UInt8) (w : World) (hs : Sl w v l) (hs2 : Sl w v2 m) (hl : l.length ≤ 900000) (hl2 : m.length ≤ 900000) :
    Calls Tryd.prog 25 #[v, v2] w fun e w' => e = .returned (.agg (rowB (codeN l m))) ∧ Below w.heap.size w w' := by
  obtain ⟨i0, hi, hz0, hz1, hz2⟩ := info_parts info_u8
  obtain ⟨A, n, c, rfl⟩ := hs.shape
  have hn := hs.len
  subst hn
  obtain ⟨A2, n2, c2, rfl⟩ := hs2.shape
  have hB0 := Blk.new w 45 (rowB (List.replicate 32 0))
  have hb0 : Below w.heap.size w (w.alloc (.cells (rowB (List.replicate 32 0)) 45)) := (Below.refl _ _).alloc (Nat.le_refl _) _
  have hZ := zeros_row 32
  have hzw : w.heap.size < (w.alloc (.cells (rowB (List.replicate 32 0)) 45)).heap.size := by simp
  go_enter Tryd.func25, Tryd.ntmps25
  go_upto_region 1 with (fail)
  change Code.wp _ _ _ _ (w.alloc (.cells (rowB (List.replicate 32 0)) 45))
  have hs1 := hs.below hb0
  have hs21 := hs2.below hb0
  generalize w.alloc (.cells (rowB (List.replicate 32 0)) 45) = W0 at hB0 hb0 hzw hs1 hs21 ⊢
  generalize rowB (List.replicate 32 0) = Z at hB0 hZ
  clear hs hs2
  have hle0 : ([] : List UInt8).length + l.length ≤ 1000000000 := by simp; omega
  go_upto_region 2 with (at_builtin; refine wpList_append_bytes _ rfl _ _ 22 rfl W0.heap.size 5 i0 Tryd.underlying22 hi hz0 hz1 hz2 _ [] rfl Own.nil _ l rfl hs1 hle0 (Nat.le_refl _) ?_; intro v1 w1 ho1 hb1)
  rw [List.nil_append] at ho1
  have Ho1 := Lib.hid ho1
  obtain ⟨A1, n1, c1, rfl⟩ := ho1.shape
  have hn1 := ho1.sl.len
  subst hn1
  clear ho1
  go_upto_if 15 with (fail)
  go_cut [5] (fun x wc => Own wc W0.heap.size 5 x (shortN l) ∧ Below W0.heap.size W0 wc)
  case first =>
    by_cases h64 : 64 < l.length
    · have E := Lib.hid (shortN_long l h64)
      have hg64 : (64 : Int) < (l.length : Int) := by omega
      have hsA := hs1.below hb1
      go_wp2_with fail
      refine (refSum_any _ l w1 hsA (by omega)).mono ?_
      rintro e w2 ⟨rfl, hb2⟩
      have hW32 := shaN_length l
      have hi32 := rowB_info hW32
      have h132 := rowB_one (shaN l)
      have hs32 := rowB_size (shaN l)
      rw [hW32] at hs32
      obtain ⟨hth, hK, hbK⟩ := fresh_row w2 45 (rowB (shaN l)) 32 hs32
      have hbX := (hb1.trans (hb2.mono hb1.size))
      have hbY := hbX.trans (hbK.mono hbX.size)
      have hsK := hK.bytes 32 32 hW32.symm (Nat.le_refl _)
      go_upto_region 4 with (refine wpList_store_mid rfl 45 _ _ rfl w2.heap.size 0 (rowB (shaN l)) rfl rfl hth hi32 h132 ?_)
      change Code.wp _ _ _ _ ((w2.alloc (.cells (rowB (List.replicate 32 0)) 45)).setCells w2.heap.size 0 (rowB (shaN l)).toList)
      generalize (w2.alloc (.cells (rowB (List.replicate 32 0)) 45)).setCells w2.heap.size 0 (rowB (shaN l)).toList = W2 at hK hbY hsK ⊢
      have hle1 : ([] : List UInt8).length + (shaN l).length ≤ 1000000000 := by rw [hW32]; decide
      go_wp2_with (at_builtin; refine wpList_append_bytes _ rfl _ _ 22 rfl W0.heap.size 5 i0 Tryd.underlying22 hi hz0 hz1 hz2 _ [] rfl Own.nil _ (shaN l) rfl hsK hle1 hbY.size ?_)
      intro v3 w3 ho3 hb3
      replace ho3 : Own w3 W0.heap.size 5 v3 (shortN l) := by rw [E.out]; simpa using ho3
      have Ho3 := Lib.hid ho3
      clear ho3
      go_wp2
      go_meet
      exact ⟨Ho3.out, hbY.trans hb3⟩
    · have E := Lib.hid (shortN_self l (by omega))
      have hg64 : ¬ (64 : Int) < (l.length : Int) := by omega
      go_wp2_with fail
      go_meet
      exact ⟨by rw [E.out]; exact Ho1.out, hb1⟩
  clear Ho1 hb1
  obtain ⟨ho, hbC⟩ := hcut
  have hle := shortN_le l
  have HK := Lib.hid (padS_key l)
  have hKl := keyN_length l
  have HC := Lib.hid (show codeN l m = shaN (maskN 92 (keyN l) ++ shaN (maskN 54 (keyN l) ++ m)) from rfl)
  generalize keyN l = K at HK hKl HC
  generalize shortN l = s at ho hle HK
  rw [← padS_zero s] at ho
  go_wp2
  go_loopw [5] (fun x wr => ∃ k : Nat, k ≤ 64 - s.length ∧ Own wr W0.heap.size 5 x (padS s k) ∧ Below W0.heap.size W0 wr) (fun x _ => 64 - lenOf x)
  case atStart => exact ⟨0, Nat.zero_le _, ho, hbC⟩
  case round =>
    clear ho hbC
    obtain ⟨k, hk, ho, hb⟩ := hrel
    obtain ⟨A3, n3, c3, rfl⟩ := ho.shape
    have hn3 := ho.sl.len
    rw [padS_length] at hn3
    have HN3 := Lib.hid hn3
    have hbw : W0.heap.size ≤ wr.heap.size := hb.size
    by_cases hlt : k < 64 - s.length
    · have hn64 : (n3 : Int) < 64 := by omega
      have hlen : (padS s k).length + [(0 : UInt8)].length ≤ 1000000000 := by rw [padS_length]; simp; omega
      have hbw' : W0.heap.size ≤ (wr.alloc (.cells #[.int .u8 0] 5)).heap.size := by simp; omega
      clear hn3
      go_wp2_with (at_builtin; refine wpList_append_bytes _ rfl _ _ 22 rfl W0.heap.size 5 i0 Tryd.underlying22 hi hz0 hz1 hz2 _ (padS s k) rfl (ho.alloc _) _ [0] rfl (Sl.one wr 5 _ _ rfl) hlen hbw' ?_)
      intro v' w3 ho3 hb3
      have Ho := Lib.hid (show Own w3 W0.heap.size 5 v' (padS s (k + 1)) by rw [← padS_succ]; exact ho3)
      have HL := Lib.hid Ho.out.lenOf
      clear ho3
      go_wp2
      go_roundw
      case rel => exact ⟨k + 1, by omega, Ho.out, (hb.alloc hbw _).trans hb3⟩
      case measure => have h1 := HL.out; have h2 := HN3.out; rw [padS_length] at h1; simp only [lenOf] at *; omega
    · obtain rfl : k = 64 - s.length := by omega
      have hn64 : n3 = 64 := by omega
      subst hn64
      rw [HK.out] at ho
      have hsK := ho.sl
      clear hn3 HN3 HK
      obtain ⟨gk, ok_, rfl, hkc⟩ : ∃ gk ok_, A3 = some ⟨gk, ok_, none⟩ ∧ ∀ j, (h : j < K.length) → wr.cell? ⟨gk, ok_ + j, none⟩ = some (.int .u8 (K[j].toNat : Int)) := by
        obtain ⟨A4, c4, e, _, ha⟩ := hsK
        injection e with e1 e2 e3
        subst e1
        obtain ⟨b, o, rfl, hx⟩ := ha (by omega)
        exact ⟨b, o, rfl, hx⟩
      have HKC := Lib.hid hkc
      have hbW := hb0.trans (hb.mono (Nat.le_of_lt hzw))
      have hBW := hB0.below hb hzw
      have hsM := hs21.below hb
      have hzW : w.heap.size < wr.heap.size := by omega
      clear ho hb hsK hkc hB0 hb0 hs21 hle
      obtain ⟨wk, eW⟩ : ∃ X, X = wr := ⟨wr, rfl⟩
      subst eW
      go_wp2
      go_loopw [7, 8, 9] (fun x y z wq => ∃ k : Nat, k ≤ 64 ∧ z = .int .i64 (k : Int) ∧ Own wq wk.heap.size 5 x (mk 54 K k) ∧ Own wq wk.heap.size 5 y (mk 92 K k) ∧ Apt x y ∧ Below wk.heap.size wk wq) (fun _ _ z _ => 64 - (intOf z).toNat)
      case atStart => exact ⟨0, Nat.zero_le _, rfl, by rw [mk_zero]; exact Own.nil, by rw [mk_zero]; exact Own.nil, Apt.nil _, Below.refl _ _⟩
      case round =>
        obtain ⟨k, hk, rfl, hox, hoy, hap, hbq⟩ := hrel
        by_cases hlt : k < 64
        · have hkK : k < K.length := by omega
          have hck := HKC.out k hkK
          have hgk := World.block_lt_of_cell? wk _ hck
          have hcq : wr.cell? ⟨gk, ok_ + k, none⟩ = some (.int .u8 (K[k].toNat : Int)) := (hbq.cell hgk).trans hck
          have HX := Lib.hid (mk_succ 54 K k hkK)
          have HY := Lib.hid (mk_succ 92 K k hkK)
          generalize K[k] = d at hcq hck HX HY
          have hl1 : (mk 54 K k).length + [d ^^^ 54].length ≤ 1000000000 := by rw [mk_length _ _ _ (by omega)]; simp; omega
          have hl3 : (mk 92 K k).length + [d ^^^ 92].length ≤ 1000000000 := by rw [mk_length _ _ _ (by omega)]; simp; omega
          have hbs : wk.heap.size ≤ wr.heap.size := hbq.size
          have hbs' : wk.heap.size ≤ (wr.alloc (.cells #[.int .u8 (bits .xor .u8 (d.toNat : Int) 54)] 5)).heap.size := by simp; omega
          have HCK := Lib.hid hck
          clear hck
          go_wp2_with (at_builtin; refine wpList_append_bytesA _ rfl _ _ 22 rfl wk.heap.size 5 i0 Tryd.underlying22 hi hz0 hz1 hz2 _ (mk 54 K k) rfl (hox.alloc _) _ [d ^^^ 54] rfl (Sl.one wr 5 _ _ (xor54 d)) hl1 hbs' ?_)
          intro v3 w3 ho3 hg3 hv3 hb3
          have hoy3 := (hoy.alloc _).keptA hg3 hap.symm
          have hap3 := hap.symm.step (hoy.alloc (.cells #[.int .u8 0] 5)) _ (by simp) hv3
          have hbq3 := (hbq.alloc hbs _).trans hb3
          have hc3 : w3.cell? ⟨gk, ok_ + k, none⟩ = some (.int .u8 (d.toNat : Int)) := (hbq3.cell hgk).trans HCK.out
          have hbs3 : wk.heap.size ≤ w3.heap.size := hbq3.size
          have hbs3' : wk.heap.size ≤ (w3.alloc (.cells #[.int .u8 (bits .xor .u8 (d.toNat : Int) 92)] 5)).heap.size := by simp; omega
          clear hox hoy hap hbq hbs hbs' hcq hg3 hv3 hb3
          go_wp2_with (at_builtin; refine wpList_append_bytesA _ rfl _ _ 22 rfl wk.heap.size 5 i0 Tryd.underlying22 hi hz0 hz1 hz2 _ (mk 92 K k) rfl (hoy3.alloc _) _ [d ^^^ 92] rfl (Sl.one w3 5 _ _ (xor92 d)) hl3 hbs3' ?_)
          intro v4 w4 ho4 hg4 hv4 hb4
          have hox4 := (ho3.alloc _).keptA hg4 hap3.symm
          have hap4 := hap3.symm.step (ho3.alloc (.cells #[.int .u8 0] 5)) _ (by simp) hv4
          have hbq4 := (hbq3.alloc hbs3 _).trans hb4
          rw [HX.out] at hox4
          rw [HY.out] at ho4
          clear ho3 hoy3 hap3 hbq3 hbs3 hbs3' hc3 hg4 hv4 hb4
          have Hx4 := Lib.hid hox4
          have Hy4 := Lib.hid ho4
          have Hb4 := Lib.hid hbq4
          clear hox4 ho4 hbq4
          go_wp2
          go_roundw
          case rel => exact ⟨k + 1, by omega, by go_num, Hx4.out, Hy4.out, hap4, Hb4.out⟩
          case measure => simp [intOf]; omega
        · obtain rfl : k = 64 := by omega
          rw [mk_done 54 K 64 hKl] at hox
          rw [mk_done 92 K 64 hKl] at hoy
          have hM := hsM.below hbq
          have hbs := hbq.size
          have hl54 : (maskN 54 K).length = 64 := by rw [maskN_length, hKl]
          have hl92 : (maskN 92 K).length = 64 := by rw [maskN_length, hKl]
          have hlen : (maskN 54 K).length + m.length ≤ 1000000000 := by omega
          clear HKC hsM
          go_wp2_with (at_builtin; refine wpList_append_bytesA _ rfl _ _ 22 rfl wk.heap.size 5 i0 Tryd.underlying22 hi hz0 hz1 hz2 _ (maskN 54 K) rfl hox _ m rfl hM hlen hbs ?_)
          intro v3 w3 ho3 hg3 hv3 hb3
          have hoy3 := hoy.keptA hg3 hap.symm
          have hbq3 := hbq.trans hb3
          have hs3 := ho3.sl
          clear hox hoy hap hbq hbs hM hg3 hv3 hb3 ho3
          go_wp2_with fail
          refine (refSum_any v3 (maskN 54 K ++ m) w3 hs3 (by rw [List.length_append]; omega)).mono ?_
          rintro e w4 ⟨rfl, hb4⟩
          have hoy4 := hoy3.below hb4 (Nat.le_refl _)
          have hbq4 := hbq3.trans (hb4.mono hbq3.size)
          have hil := shaN_length (maskN 54 K ++ m)
          generalize shaN (maskN 54 K ++ m) = h at HC hil ⊢
          have hii := rowB_info hil
          have hi1 := rowB_one h
          have hir : (rowB h).size = 32 := by rw [rowB_size, hil]
          obtain ⟨hth, hI, hbI⟩ := fresh_row w4 45 (rowB h) 32 hir
          clear hs3 hoy3 hbq3 hb4
          go_upto_region 14 with (refine wpList_store_mid rfl 45 _ _ rfl w4.heap.size 0 (rowB h) rfl rfl hth hii hi1 ?_)
          change Code.wp _ _ _ _ ((w4.alloc (.cells (rowB (List.replicate 32 0)) 45)).setCells w4.heap.size 0 (rowB h).toList)
          have hoy5 := hoy4.below hbI (Nat.le_refl _)
          have hbq5 := hbq4.trans (hbI.mono hbq4.size)
          have hin := hI.bytes 32 32 hil.symm (Nat.le_refl _)
          generalize (w4.alloc (.cells (rowB (List.replicate 32 0)) 45)).setCells w4.heap.size 0 (rowB h).toList = W5 at hoy5 hbq5 hin hI ⊢
          clear hoy4 hbq4 hth hbI hI
          generalize w4.heap.size = gh at hin ⊢
          have hlen5 : (maskN 92 K).length + h.length ≤ 1000000000 := by omega
          go_wp2_with (at_builtin; refine wpList_append_bytesA _ rfl _ _ 22 rfl wk.heap.size 5 i0 Tryd.underlying22 hi hz0 hz1 hz2 _ (maskN 92 K) rfl hoy5 _ h rfl hin hlen5 hbq5.size ?_)
          intro v6 w6 ho6 hg6 hv6 hb6
          have hbq6 := hbq5.trans hb6
          have hs6 := ho6.sl
          clear hoy5 hbq5 hin hg6 hv6 hb6 ho6
          go_wp2_with fail
          refine (refSum_any v6 (maskN 92 K ++ h) w6 hs6 (by rw [List.length_append]; omega)).mono ?_
          rintro e w7 ⟨rfl, hb7⟩
          rw [← HC.out]
          have hbq7 := hbq6.trans (hb7.mono hbq6.size)
          have hBC := hBW.below hbq7 hzW
          have hbC := hbW.trans (hbq7.mono (Nat.le_of_lt hzW))
          clear hs6 hbq6 hb7
          have hcl : (codeN l m).length = 32 := codeN_length _ _
          have hci := rowB_info hcl
          have hc1 := rowB_one (codeN l m)
          have hcr : (rowB (codeN l m)).size = 32 := by rw [rowB_size, hcl]
          generalize hT : rowB (codeN l m) = T at hci hc1 hcr ⊢
          have ET := Lib.hid hT
          clear hT
          have hth : w7.there w.heap.size 0 T.size := by rw [hcr, ← hZ]; exact hBC.there
          have hgr := grown_setCells w.heap.size T.toList 0 w7
          go_wp2_with (refine wpList_store_mid rfl 45 _ _ rfl w.heap.size 0 T rfl rfl hth hci hc1 ?_)
          have hEE : Blk (w7.setCells w.heap.size 0 T.toList) w.heap.size 45 T := hBC.setRow (by rw [hcr, hZ])
          have hbE := Below.only hbC hgr (Nat.le_refl _) hbC.size
          exact bodyPost_ret (v := .agg T) (results_cell_row rfl _ _ w.heap.size 45 T (0, 0) _ rfl hEE Tryd.underlying45 rfl hci) rfl ⟨by rw [ET.out], hbE⟩
end Go.Proofs.YthlopecllhdmhaaDoor

/-
  An event's bytes, plainly; event.Bytes and its closure.
-/
import Derived.Test.YtigepbklpiilpaaEvRMay
import Derived.Test.YtigepbklpiilpaaJoin
import Derived.Test.YtigepbklpiilpaaVec
import Derived.Test.YtigepbklpiilpaaApp
import Derived.Test.YtigepbklpiilpaaEvKn
import Derived.Deep.Cut
namespace Go.Proofs.Ytigepbklpiilpaa
open Go.RowKit
open CtxM
set_option linter.unusedVariables false
set_option linter.unusedSimpArgs false
set_option maxRecDepth 20000

def dotB (d : Dt) : List UInt8 := beB 1 d.1.toNat ++ beB 8 d.2
def blobB (l : List UInt8) : List UInt8 := beB 2 l.length ++ l
def deB (t : De) : List UInt8 := dotB t.1 ++ blobB t.2.data.toList
def headB (x : Ev) : List UInt8 := dotB x.id ++ blobB x.topic.data.toList ++ blobB x.P ++ vecB x.V ++ beB 2 x.T.length
/-- An event's bytes. -/
def evBytes (x : Ev) : List UInt8 := headB x ++ (x.T.map deB).flatten
theorem dotB_length (d : Dt) : (dotB d).length = 9 := by simp [dotB, beB_length]
theorem blobB_length (l : List UInt8) : (blobB l).length = 2 + l.length := by simp [blobB, beB_length]

/-- The text's bytes, as new memory that bears a mark. -/
theorem conv_bytes (s : ByteArray) (w : World) : ∃ cB W, (convert 9 25 (.string s)).run Try.prog w = .ok (.slice (some ⟨w.heap.size, 0, none⟩) s.size cB) W ∧ Below w.heap.size w W ∧ w.heap.size < W.heap.size ∧ s.size ≤ cB ∧
    (∃ C fr, W.heap[w.heap.size]? = some (.cells C 5 fr) ∧ fr ≠ (0, 0) ∧ ∀ j (hj : j < s.data.toList.length), C[j]? = some (.int .u8 (s.data.toList[j].toNat : Int))) ∧ Sl W (.slice (some ⟨w.heap.size, 0, none⟩) s.size cB) s.data.toList := by
  have hr := run_bytes_of_string (P := Try.prog) w 9 25 5 s Try.underlying9 Try.underlying25 Try.underlying5
  have hsz : s.data.toList.length = s.size := by show s.data.toList.length = s.data.size; simp
  have hat : ∀ j (hj : j < s.data.toList.length), (bytesRow s (grownCap w s.size 0 5))[j]? = some (.int .u8 (s.data.toList[j].toNat : Int)) := fun j hj => by
    rw [bytesRow_at _ _ j (by omega)]
    simp
  have hh : ∀ o, (w.drew.alloc (.cells (bytesRow s (grownCap w s.size 0 5)) 5 o)).heap[w.heap.size]? = some (.cells (bytesRow s (grownCap w s.size 0 5)) 5 o) := fun o => heap_alloc_new w.drew _
  refine ⟨_, _, hr, (Below.refl _ _).drew.alloc (Nat.le_refl _) _, by simp, grownCap_ge w _ 0 _, ⟨_, _, hh _, by simp, hat⟩, ?_⟩
  refine ⟨_, _, by rw [hsz], by rw [hsz]; exact grownCap_ge w _ 0 _, fun hn => ⟨w.heap.size, 0, rfl, fun j hj => ?_⟩⟩
  rw [cell_of_row _ w.heap.size (0 + j) _ 5 _ (hh ((bytesRow s (grownCap w s.size 0 5)).size, (bytesRow s (grownCap w s.size 0 5)).size + 1)), Nat.zero_add]
  exact hat j hj

theorem wpList_append_bytes2 {P : Program} {ops : Array Oper} {rest : List Oper} {o : Oper} {a : Act} {w : World} {Q : Exit → Act → World → Prop} (hgd : o.guard = none) (s x : Operand) (t : TypeId)
    (ho : o.op = .call { callee := .builtin .append, args := #[s, x], argTypes := #[t, t] })
    (base : Nat) (e : TypeId) (i : TypeInfo) (ht : P.underlying t = some (.slice e)) (hi : P.info? e = some i) (hz : i.zero = some (.int .u8 0))
    (hsize : i.size = 1) (hby : i.bytes = 1) (v : Value) (l : List UInt8) (hs : a.eval s = v) (hown : Own w base e v l)
    (v2 : Value) (m : List UInt8) (hx : a.eval x = v2) (hm : Sl w v2 m) (hlen : l.length + m.length ≤ 1000000000) (hbase : base ≤ w.heap.size)
    (h : ∀ v' w', Own w' base e v' (l ++ m) → w.grownBy w' v.ownBlock → wpList P ops Q rest (a.put o.dst v') w') : wpList P ops Q (o :: rest) a w := by
  refine wpList_plain hgd fun K hK => ?_
  obtain ⟨v', w', hr, h2, h3⟩ := run_append_bytes2 (P := P) w base t o.type e i ht hi hz hsize hby v l hown v2 m hm hlen hbase
  unfold Oper.wp execOp
  simp only [ho, resolve, invoke, builtin, Sem.run_bind, Sem.run_pure, Result.andThen_ok, List.map_toArray, List.map_cons, List.map_nil, hs, hx, hr]
  exact hK _ _ (h v' w' h2 h3)
/-- A row of bytes is no block of another type. -/
theorem own_ne {w : World} {base k : Nat} {v : Value} {l : List UInt8} {t : TypeId} {cs : Array Value} (h : Own w base 5 v l) (hB : Blk w k t cs) (ht : t ≠ 5) : some k ≠ v.ownBlock := by
  intro e
  rcases h.2 with ⟨rfl, _⟩ | ⟨g', cap, cur, rfl, _, hh, _⟩
  · cases e
  · injection e with e
    subst e
    unfold Blk at hB
    rw [hh] at hB
    injection hB with hB
    injection hB with _ h2
    exact ht h2.symm
/-- The box that the closure appends to. -/
structure Bx (w : World) (gb : Nat) (acc : List UInt8) : Prop where
  box : ∃ v, Blk w gb 25 #[v] ∧ Own w (gb + 1) 5 v acc
  lt : gb + 1 ≤ w.heap.size
theorem Bx.below {w w' : World} {gb : Nat} {acc : List UInt8} (h : Bx w gb acc) (hb : Below w.heap.size w w') : Bx w' gb acc := by
  obtain ⟨⟨v, h1, h2⟩, h3⟩ := h
  exact ⟨⟨v, h1.below hb h1.lt, h2.below hb (Nat.le_refl _)⟩, Nat.le_trans h3 hb.size⟩
def PutEnd (gb : Nat) (acc p : List UInt8) (w : World) (e : Ending) (w' : World) : Prop := e = .returned (.tuple #[]) ∧ Bx w' gb (acc ++ p) ∧ Below gb w w' ∧ ∀ (k : Nat) (t : TypeId) (cs : Array Value), Blk w k t cs → t ≠ 25 → t ≠ 5 → Blk w' k t cs
theorem enter_put : ∀ args w, (callFunc 24 args).run Try.prog w = .ok (.enter 24 args) w := fun _ _ => by kernel_rfl
theorem put_any (v er : Value) (gb : Nat) (acc p : List UInt8) (w : World) (hB : Bx w gb acc) (hs : Sl w v p) (hl : acc.length + p.length ≤ 1000000000) :
    Calls Try.prog 24 #[v, er, .pointer (some ⟨gb, 0, none⟩)] w (PutEnd gb acc p w) := by
  obtain ⟨i0, hi, hz0, hz1, hz2⟩ := info_parts info_u8
  obtain ⟨⟨u, hbx, ho⟩, hlt⟩ := hB
  obtain ⟨A, n, c, rfl⟩ := hs.shape
  obtain ⟨A1, n1, c1, rfl⟩ := ho.shape
  have HS := Lib.hid hs
  have HO := Lib.hid ho
  have HL := Lib.hid hl
  have c0 : w.cell? ⟨gb, 0, none⟩ = some (.slice A1 n1 c1) := by rw [hbx.cell]; rfl
  clear hs ho hl
  go_enter Try.func24, Try.ntmps24
  go_wp2_with (at_builtin; refine wpList_append_bytes2 rfl _ _ 25 rfl (gb + 1) 5 i0 Try.underlying25 hi hz0 hz1 hz2 _ acc rfl HO.out _ p rfl HS.out HL.out hlt ?_; intro v2 w2 ho2 hgr2; obtain ⟨A2, n2, k2, rfl⟩ := ho2.shape; have hb2 := (Below.refl (gb + 1) w).grown hgr2 hlt (fun k hk => (HO.out.lt k hk).1); have hbx2 := hbx.below hb2 (Nat.lt_succ_self _); have c2 : w2.cell? ⟨gb, 0, none⟩ = some (.slice A1 n1 c1) := (by rw [hbx2.cell]; rfl); have z2 := hbx2.frozen 0; have HO2 := Lib.hid ho2; have HB2 := Lib.hid hb2; have HG2 := Lib.hid hgr2)
  go_end0
  have h9 := HO2.out
  have h8 := HB2.out
  exact ⟨rfl, ⟨⟨_, hbx2.set_ 0 _, h9.grown (grown_setCell w2 gb 0 _) (fun k hk => by injection hk with hk; omega)⟩, by simp; exact Nat.le_trans hlt h8.size⟩, Below.only (h8.mono (Nat.le_succ _) |> fun h => h) (grown_setCell w2 gb 0 _) (Nat.le_refl _) (by have := h8.size; omega), fun k t cs hk h1 h2 => Blk.far (hk.grown HG2.out (own_ne HO.out hk h2)) (fun e => by have e' : k = gb := e; subst e'; exact Blk.ne_ hk hbx h1 rfl) _⟩

/-- What event.Bytes answers. -/
def BytesEnd (x : Ev) (w : World) (e : Ending) (w' : World) : Prop := Below w.heap.size w w' ∧ ((evB x = true ∧ ∃ v, e = .returned (.tuple #[v, .int .i64 0]) ∧ Sl w' v (evBytes x)) ∨ (evB x = false ∧ e = .returned (.tuple #[.slice none 0 0, .int .i64 2])))
theorem deB_length (t : De) : (deB t).length = 11 + t.2.size := by
  have : t.2.data.toList.length = t.2.size := by show t.2.data.toList.length = t.2.data.size; simp
  rw [deB, List.length_append, dotB_length, blobB_length, this]; omega
theorem des_length (T : List De) (h : ∀ t ∈ T, t.2.size ≤ 32) : ((T.map deB).flatten).length ≤ T.length * 43 := by
  induction T with
  | nil => simp
  | cons t T ih =>
    have h1 := h t (List.mem_cons_self ..)
    have h2 := ih (fun t ht => h t (List.mem_cons_of_mem _ ht))
    simp only [List.map_cons, List.flatten_cons, List.length_append, List.length_cons, deB_length]
    omega
/-- The bytes up to the i-th dest. -/
def bytesTo (x : Ev) (i : Nat) : List UInt8 := headB x ++ ((x.T.take i).map deB).flatten
theorem bytesTo_next (x : Ev) (i : Nat) (h : i < x.T.length) : bytesTo x (i + 1) = (bytesTo x i ++ dotB x.T[i].1) ++ blobB x.T[i].2.data.toList := by
  unfold bytesTo
  rw [List.take_succ_eq_append_getElem h, List.map_append, List.flatten_append]
  simp [deB, List.append_assoc]
theorem bytesTo_all (x : Ev) : bytesTo x x.T.length = evBytes x := by unfold bytesTo evBytes; rw [List.take_length]
theorem str_len (s : ByteArray) : s.data.toList.length = s.size := by show s.data.toList.length = s.data.size; simp
theorem name_le {s : ByteArray} (h : nameB s = true) : s.size ≤ 32 := by
  unfold nameB at h
  exact (of_decide_eq_true h).2
theorem headB_length {x : Ev} (h : evB x = true) (hV : x.V.length = 16) : (headB x).length ≤ 1000 := by
  obtain ⟨h1, h2, h3, h4⟩ := evB_iff.1 h
  have := name_le h2
  unfold headB
  simp only [List.length_append, dotB_length, blobB_length, vecB_length, beB_length, str_len, hV]
  omega
theorem bytesTo_length {x : Ev} (h : evB x = true) (hV : x.V.length = 16) (i : Nat) : (bytesTo x i).length ≤ 50000 := by
  obtain ⟨h1, h2, h3, h4⟩ := evB_iff.1 h
  have h5 := headB_length h hV
  have h6 := des_length (x.T.take i) (fun t ht => by
    obtain ⟨j, hj, rfl⟩ := List.getElem_of_mem (List.mem_of_mem_take ht)
    exact name_le (h4.2 j hj).2.1)
  have h7 : (x.T.take i).length ≤ 1024 := by rw [List.length_take]; have := h4.1; omega
  unfold bytesTo
  rw [List.length_append]
  have h8 : (x.T.take i).length * 43 ≤ 1024 * 43 := Nat.mul_le_mul_right _ h7
  omega
theorem vec_of (V : List Nat) (hV : V.length = 16) (h : ∀ n ∈ V, n < 18446744073709551616) : Vec (uqs V) V := ⟨rfl, hV, h⟩
theorem nat_of {d : Dt} (h : May d) : ∃ r : Nat, d.1 = (r : Int) ∧ r ≤ 255 := ⟨d.1.toNat, by have := h.1; omega, by have := h.2.1; omega⟩

/-- Where the writing of an event stands. -/
structure Sb (w W : World) (gb : Nat) (x : Ev) (acc : List UInt8) : Prop where
  e : Blk W w.heap.size 30 (evc x)
  bx : Bx W gb acc
  b : Below w.heap.size w W
  gt : w.heap.size < gb
section
variable {w W W' : World} {gb : Nat} {x : Ev} {acc : List UInt8}
theorem Sb.below (h : Sb w W gb x acc) (hb : Below W.heap.size W W') : Sb w W' gb x acc := ⟨h.e.below hb h.e.lt, h.bx.below hb, h.b.trans (hb.mono h.b.size), h.gt⟩
theorem Sb.put (h : Sb w W gb x acc) {acc' : List UInt8} (hx : Bx W' gb acc') (hb : Below gb W W') : Sb w W' gb x acc' := ⟨h.e.below hb h.gt, hx, h.b.trans (hb.mono (Nat.le_of_lt h.gt)), h.gt⟩
end

set_option maxHeartbeats 8000000 in
theorem ebytes_any (x : Ev) (w : World) (hx : EvOk w x) : Calls Try.prog 9 #[.agg (evc x)] w (BytesEnd x w) := by
  have hB0 := Blk.new w 30 (evc x)
  have hb0 : Below w.heap.size w (w.alloc (.cells (evc x) 30)) := (Below.refl _ _).alloc (Nat.le_refl _) _
  have hV := hx.len
  have hlt := hx.lt
  obtain ⟨Ap, cp, hpl, _⟩ := id hx.pl
  obtain ⟨At, ct, hto⟩ := hx.to.shape
  have HX := Lib.hid hx
  go_enter Try.func9, Try.ntmps9
  go_upto_region 1 with fail
  generalize w.alloc (.cells (evc x) 30) = w1 at hB0 hb0 ⊢
  have hm := emay_any x w1 (hx.below hb0)
  clear hx
  cases hE : evB x
  · have HE := Lib.hid hE
    rw [hE] at hm
    clear hE
    go_wp2_with (first | (refine wpList_load_mid_g (by rfl) 30 _ rfl w.heap.size 0 rfl (evc x) _ (ev_all hB0) Try.underlying30 rfl (evc_info hV) ?_; try simp only [Act.put, List.setIfInBounds_toArray, List.set_cons_zero, List.set_cons_succ]) | (go_at_call 10; refine hm.mono ?_; rintro e w2 ⟨rfl, hg2⟩))
    go_ret2
    exact ⟨hb0.trans (hg2.below.mono hb0.size), .inr ⟨HE.out, rfl⟩⟩
  · have HE := Lib.hid hE
    rw [hE] at hm
    obtain ⟨hpast, hname, hplen, hTo⟩ := evB_iff.1 hE
    have hM := hpast.1
    obtain ⟨r, hr, hr255⟩ := nat_of hM
    have hc64 : x.id.2 < 18446744073709551616 := by have := hM.2.2.2; unfold top at this; omega
    have hnl := name_le hname
    have hT1 := hTo.1
    have hhd := headB_length hE hV
    have HTO := Lib.hid hTo
    have HBL := Lib.hid (bytesTo_length hE hV)
    have HHL := Lib.hid hhd
    clear hE hpast hTo hname hM hhd
    go_upto_region 3 with (first | (refine wpList_load_mid_g (by rfl) 30 _ rfl w.heap.size 0 rfl (evc x) _ (ev_all hB0) Try.underlying30 rfl (evc_info hV) ?_; try simp only [Act.put, List.setIfInBounds_toArray, List.set_cons_zero, List.set_cons_succ]) | (go_at_call 10; refine hm.mono ?_; rintro e w2 ⟨rfl, hg2⟩))
    obtain ⟨gb, hgb⟩ : ∃ g, g = w2.heap.size := ⟨_, rfl⟩
    have J3 : Sb w (w2.alloc (.cells #[.slice none 0 0] 25)) gb x [] := ⟨((hB0.below hg2.below hB0.lt).alloc _), ⟨⟨_, by rw [hgb]; exact Blk.new _ _ _, Own.nil⟩, by rw [hgb]; simp⟩, (hb0.trans (hg2.below.mono hb0.size)).alloc (by have := hb0.size; have := hg2.below.size; omega) _, by rw [hgb]; have := hB0.lt; have := hg2.below.size; omega⟩
    have e24 := enter_put
    have hmf : ∀ (fn : Fn) (first cap : Array Value) (w : World), (Instr.makeFunc fn first cap).run Try.prog w = .ok (.func fn first cap) w := fun _ _ _ _ => rfl
    go_upto_region 4 with fail
    rw [← hgb]
    generalize w2.alloc (.cells #[.slice none 0 0] 25) = w3 at J3 ⊢
    clear hgb hB0 hb0 hg2 hm
    have a0 := ev_0 J3.e
    have a1 := ev_1 J3.e
    rw [hr] at a0
    have hgt := J3.gt
    -- the ID
    go_upto_region 6 with (first | (go_at_call 25; refine (dot_yes r x.id.2 _ hr255 hc64).mono ?_; rintro e w4 ⟨v4, rfl, ho4, hb4⟩; have J4 := J3.below hb4) | (go_at_fn 24; refine (put_any v4 _ gb [] (beB 1 r ++ beB 8 x.id.2) _ J4.bx ho4.sl (by simp [beB_length])).mono ?_; rintro e w5 ⟨rfl, hxw5, hpw5, hkw5⟩; have J5 := J4.put hxw5 hpw5))
    have h6 : [] ++ (beB 1 r ++ beB 8 x.id.2) = dotB x.id := by rw [List.nil_append, dotB, hr]; rfl
    rw [h6] at J5
    clear a0 a1 J3 J4 ho4 hb4 hxw5 hpw5 h6
    -- the Topic
    have a2 := ev_2 J5.e
    obtain ⟨cB, W6, hcv, hb6, _, _, _, hsl6⟩ := conv_bytes x.topic w5
    have J6 := J5.below hb6
    have htl := str_len x.topic
    go_upto_region 7 with (first | (go_at_call 26; refine (blob_yes _ x.topic.data.toList _ hsl6 (by omega)).mono ?_; rintro e w7 ⟨v7, rfl, ho7, hb7⟩; have J7 := J6.below hb7) | (go_at_fn 24; refine (put_any v7 _ gb (dotB x.id) (beB 2 x.topic.data.toList.length ++ x.topic.data.toList) _ J7.bx ho7.sl (by simp [beB_length, dotB_length]; omega)).mono ?_; rintro e w8 ⟨rfl, hxw8, hpw8, hkw8⟩; have J8 := J7.put hxw8 hpw8))
    clear a2 J5 J6 J7 ho7 hb7 hxw8 hpw8 hcv hb6 hsl6 htl
    -- the Payload
    have a3 := ev_3 J8.e
    rw [hpl] at a3
    have hsl8 := (HX.out.below J8.b).pl
    rw [hpl] at hsl8
    have hlA : (dotB x.id ++ (beB 2 x.topic.data.toList.length ++ x.topic.data.toList)).length ≤ 100 := by simp only [List.length_append, dotB_length, beB_length, str_len]; omega
    obtain ⟨accA, hA⟩ : ∃ a, dotB x.id ++ (beB 2 x.topic.data.toList.length ++ x.topic.data.toList) = a := ⟨_, rfl⟩
    rw [hA] at J8 hlA
    have HA := Lib.hid hA
    clear hA
    go_upto_region 8 with (first | (go_at_call 26; refine (blob_yes _ x.P _ hsl8 (by omega)).mono ?_; rintro e w9 ⟨v9, rfl, ho9, hb9⟩; have J9 := J8.below hb9) | (go_at_fn 24; refine (put_any v9 _ gb accA (beB 2 x.P.length ++ x.P) _ J9.bx ho9.sl (by simp only [List.length_append, beB_length]; omega)).mono ?_; rintro e w10 ⟨rfl, hxw10, hpw10, hkw10⟩; have J10 := J9.put hxw10 hpw10))
    clear a3 J8 J9 ho9 hb9 hxw10 hpw10 hsl8
    have hlB : (accA ++ (beB 2 x.P.length ++ x.P)).length ≤ 700 := by simp only [List.length_append, beB_length]; omega
    obtain ⟨accB, hB⟩ : ∃ a, accA ++ (beB 2 x.P.length ++ x.P) = a := ⟨_, rfl⟩
    rw [hB] at J10 hlB
    have HB := Lib.hid hB
    clear hB
    -- the Past
    have hvv := vector_any (uqs x.V) x.V w10 (vec_of x.V hV hlt)
    go_upto_region 9 with (first | (refine wpList_load_mid_g (by rfl) 27 _ rfl w.heap.size 4 rfl (uqs x.V) _ (ev_range J10.e hV) Try.underlying27 rfl (uqs_info hV) ?_; try simp only [Act.put, List.setIfInBounds_toArray, List.set_cons_zero, List.set_cons_succ]) | (go_at_call 27; refine hvv.mono ?_; rintro e w11 ⟨v11, rfl, ho11, hb11⟩; have J11 := J10.below hb11) | (go_at_fn 24; refine (put_any v11 _ gb accB (vecB x.V) _ J11.bx ho11.sl (by rw [vecB_length, hV]; omega)).mono ?_; rintro e w12 ⟨rfl, hxw12, hpw12, hkw12⟩; have J12 := J11.put hxw12 hpw12))
    clear J10 J11 ho11 hb11 hxw12 hpw12 hvv
    have hlC : (accB ++ vecB x.V).length ≤ 900 := by simp only [List.length_append, vecB_length, hV]; omega
    obtain ⟨accC, hC⟩ : ∃ a, accB ++ vecB x.V = a := ⟨_, rfl⟩
    rw [hC] at J12 hlC
    have HC := Lib.hid hC
    clear hC
    -- how many
    have a20 := ev_20 J12.e hV
    rw [hto] at a20
    have hwT : IntKind.u64.wrap (x.T.length : Int) = (x.T.length : Int) := by rw [IntKind.wrap_u64]; omega
    go_upto_region 10 with (first | (go_at_call 28; refine (put_yes x.T.length 2 _ (by omega) (by omega) (by omega) (by omega)).mono ?_; rintro e w13 ⟨v13, rfl, ho13, hb13⟩; have J13 := J12.below hb13) | (go_at_fn 24; refine (put_any v13 _ gb accC (beB 2 x.T.length) _ J13.bx ho13.sl (by rw [beB_length]; omega)).mono ?_; rintro e w14 ⟨rfl, hxw14, hpw14, hkw14⟩; have J14 := J13.put hxw14 hpw14))
    have hacc : accC ++ beB 2 x.T.length = bytesTo x 0 := by
      unfold bytesTo headB
      rw [← HC.out, ← HB.out, ← HA.out]
      simp [blobB, List.append_assoc]
    rw [hacc] at J14
    clear a20 J12 J13 ho13 hb13 hxw14 hpw14 hacc HA HB HC hlA hlB hlC hwT
    have a20 := ev_20 J14.e hV
    rw [hto] at a20
    go_wp2
    clear a20
    go_loopw [51] (fun z wr => ∃ i : Nat, z = .int .i64 (i : Int) ∧ i ≤ x.T.length ∧ Sb w wr gb x (bytesTo x i)) (fun z _ => x.T.length - (intOf z).toNat)
    case atStart => exact ⟨0, rfl, Nat.zero_le _, J14⟩
    case round =>
      clear J14
      obtain ⟨i, rfl, hi, J⟩ := hrel
      by_cases hlt2 : i < x.T.length
      · have hse := (HX.out.below J.b).to
        rw [hto] at hse
        obtain ⟨b, o, eA, e0, e1, e2⟩ := hse.at_ i hlt2
        subst eA
        obtain ⟨t, ht, HT⟩ : ∃ t, x.T[i] = t ∧ Hid (x.T[i] = t) := ⟨_, rfl, Lib.hid rfl⟩
        have h1 := HTO.out.2 i hlt2
        rw [ht] at e0 e1 e2 h1
        obtain ⟨r2, hr2, hr2l⟩ := nat_of h1.1
        have hc2 : t.1.2 < 18446744073709551616 := by have := h1.1.2.2.2; unfold top at this; omega
        have hn2 := name_le h1.2.1
        rw [hr2] at e0
        have HLT := Lib.hid hlt2
        have hbl := HBL.out i
        clear ht h1 hse
        have hgt2 := J.gt
        have hblk := Blk.new wr 55 #[.int .i64 (r2 : Int), .int .u64 (t.1.2 : Int), .string t.2]
        have JA := J.below ((Below.refl _ _).alloc (Nat.le_refl _) (.cells #[.int .i64 (r2 : Int), .int .u64 (t.1.2 : Int), .string t.2] 55))
        go_upto_region 13 with fail
        generalize wr.alloc (.cells #[.int .i64 (r2 : Int), .int .u64 (t.1.2 : Int), .string t.2] 55) = wa at hblk JA ⊢
        obtain ⟨gd, hgd⟩ : ∃ g, g = wr.heap.size := ⟨_, rfl⟩
        rw [← hgd] at hblk ⊢
        clear hgd e0 e1 e2 J
        have d0 : wa.cell? ⟨gd, 0, none⟩ = some (.int .i64 (r2 : Int)) := by rw [hblk.cell]; rfl
        have d1 : wa.cell? ⟨gd, 1, none⟩ = some (.int .u64 (t.1.2 : Int)) := by rw [hblk.cell]; rfl
        go_upto_region 14 with (first | (go_at_call 25; refine (dot_yes r2 t.1.2 _ hr2l hc2).mono ?_; rintro e wb ⟨vb, rfl, hob, hbb⟩; have JB := JA.below hbb; have hblkb := hblk.below hbb hblk.lt) | (go_at_fn 24; refine (put_any vb _ gb (bytesTo x i) (beB 1 r2 ++ beB 8 t.1.2) _ JB.bx hob.sl (by simp only [List.length_append, beB_length]; omega)).mono ?_; rintro e wc ⟨rfl, hxwc, hpwc, hkwc⟩; have JC := JB.put hxwc hpwc))
        have hblkc := hkwc _ _ _ hblkb (by decide) (by decide)
        have d2 : wc.cell? ⟨gd, 2, none⟩ = some (.string t.2) := by rw [hblkc.cell]; rfl
        clear d0 d1 hblk hblkb JA JB hob hbb hxwc hpwc hkwc
        obtain ⟨cB, Wd, hcv, hbd, _, _, _, hsld⟩ := conv_bytes t.2 wc
        have JD := JC.below hbd
        have htl2 := str_len t.2
        go_wp2_with (first | (go_at_call 26; refine (blob_yes _ t.2.data.toList _ hsld (by omega)).mono ?_; rintro e wf ⟨vf, rfl, hof, hbf⟩; have JF := JD.below hbf) | (go_at_fn 24; refine (put_any vf _ gb (bytesTo x i ++ (beB 1 r2 ++ beB 8 t.1.2)) (beB 2 t.2.data.toList.length ++ t.2.data.toList) _ JF.bx hof.sl (by simp only [List.length_append, beB_length]; omega)).mono ?_; rintro e wg ⟨rfl, hxwg, hpwg, hkwg⟩; have JG := JF.put hxwg hpwg))
        refine ⟨⟨i + 1, by go_num, HLT.out, ?_⟩, by simp [intOf]; have := HLT.out; omega⟩
        rw [bytesTo_next x i HLT.out, HT.out]
        have hd : dotB t.1 = beB 1 r2 ++ beB 8 t.1.2 := by rw [dotB, hr2]; rfl
        rw [hd]
        exact JG
      · obtain rfl : i = x.T.length := by omega
        rw [bytesTo_all] at J
        obtain ⟨u, hu, hou⟩ := J.bx.box
        have c0 : wr.cell? ⟨gb, 0, none⟩ = some u := by rw [hu.cell]; rfl
        obtain ⟨Au, nu, cu, rfl⟩ := hou.shape
        have HOU := Lib.hid hou
        have HJB := Lib.hid J.b
        clear hou hu J hlt2 hi
        go_wp2
        go_ret2
        exact ⟨HJB.out, .inl ⟨HE.out, _, rfl, HOU.out.sl⟩⟩
end Go.Proofs.Ytigepbklpiilpaa

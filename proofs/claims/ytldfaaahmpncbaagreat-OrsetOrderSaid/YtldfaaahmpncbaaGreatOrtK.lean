/-
  Several sets, boxes and rows in memory; the chapter's rows of orset.
-/
import Derived.Test.YtldfaaahmpncbaaGreatOrtAC
namespace Go.Proofs.YtldfaaahmpncbaaGreat
open Go.RowKit Go.Maps
open CtxM
set_option linter.unusedVariables false
set_option linter.unusedSimpArgs false
set_option maxRecDepth 20000
abbrev Sx_ := Nat × St × (Nat → Prop)
abbrev Bx_ := Nat × TypeId × Array Value
/-- Sets apart from each other, boxes apart from them, rows of items, all made since w. -/
structure Kn (w X : World) (ss : List Sx_) (Bs : List Bx_) (rows : List (Value × List It)) : Prop where
  set : ∀ s ∈ ss, OsF X s.1 s.2.1 s.2.2 ∧ ∀ i, s.2.2 i → w.heap.size ≤ i
  apart : ss.Pairwise fun a b => ∀ i, a.2.2 i → ¬ b.2.2 i
  box : ∀ b ∈ Bs, Blk X b.1 b.2.1 b.2.2 ∧ ∀ s ∈ ss, ¬ s.2.2 b.1
  row : ∀ r ∈ rows, OwnK kIt X w.heap.size r.1 r.2
  bel : Below w.heap.size w X
section
variable {w X X' : World} {ss : List Sx_} {Bs : List Bx_} {rows : List (Value × List It)}
theorem Kn.start (w : World) : Kn w w [] [] [] := ⟨by simp, List.Pairwise.nil, by simp, by simp, Below.refl _ _⟩
theorem Kn.below (h : Kn w X ss Bs rows) (hb : Below X.heap.size X X') : Kn w X' ss Bs rows :=
  ⟨fun s hs => ⟨(h.set s hs).1.below hb, (h.set s hs).2⟩, h.apart, fun b hb' => ⟨(h.box b hb').1.below hb (h.box b hb').1.lt, (h.box b hb').2⟩, fun r hr => (h.row r hr).below hb, h.bel.trans (hb.mono h.bel.size)⟩
theorem Kn.addBox (h : Kn w X ss Bs rows) {b : Bx_} (hb : Blk X b.1 b.2.1 b.2.2) (hn : ∀ s ∈ ss, ¬ s.2.2 b.1) : Kn w X ss (b :: Bs) rows :=
  ⟨h.set, h.apart, fun c hc => by rcases List.mem_cons.1 hc with rfl | hc; exact ⟨hb, hn⟩; exact h.box c hc, h.row, h.bel⟩
/-- A box just made. -/
theorem Kn.newBox (h : Kn w X ss Bs rows) (t : TypeId) (cs : Array Value) : Kn w (X.alloc (.cells cs t)) ss ((X.heap.size, t, cs) :: Bs) rows :=
  (h.below ((Below.refl _ _).alloc (Nat.le_refl _) (.cells cs t))).addBox (Blk.new X t cs) fun s hs hc => by have := (h.set s hs).1.lt _ hc; omega
theorem Kn.addSet (h : Kn w X ss Bs rows) (hb : Below X.heap.size X X') {p : Nat} {D : St} {G : Nat → Prop} (ho : OsF X' p D G) (hg : ∀ i, G i → X.heap.size ≤ i) : Kn w X' (ss ++ [(p, D, G)]) Bs rows := by
  have h' := h.below hb
  refine ⟨fun s hs => ?_, List.pairwise_append.2 ⟨h'.apart, List.pairwise_singleton _ _, fun a ha b hb' i h1 h2 => ?_⟩, fun b hb' => ⟨(h'.box b hb').1, fun s hs => ?_⟩, h'.row, h'.bel⟩
  · rcases List.mem_append.1 hs with hs | hs
    · exact h'.set s hs
    · rw [List.mem_singleton.1 hs]
      exact ⟨ho, fun i hi => Nat.le_trans h.bel.size (hg i hi)⟩
  · rw [List.mem_singleton.1 hb'] at h2
    have := (h.set a ha).1.lt _ h1
    have := hg i h2
    omega
  · rcases List.mem_append.1 hs with hs | hs
    · exact (h'.box b hb').2 s hs
    · rw [List.mem_singleton.1 hs]
      intro hc
      have := hg _ hc
      have := (h.box b hb').1.lt
      omega
theorem Kn.addRow (h : Kn w X ss Bs rows) {v : Value} {L : List It} {base : Nat} (ho : OwnK kIt X base v L) (hb : w.heap.size ≤ base) : Kn w X ss Bs ((v, L) :: rows) :=
  ⟨h.set, h.apart, h.box, fun r hr => by rcases List.mem_cons.1 hr with rfl | hr; exact ho.mono hb; exact h.row r hr, h.bel⟩
/-- One of the sets has turned. -/
theorem Kn.op {A B : List Sx_} {p : Nat} {D D' : St} {F G : Nat → Prop} (h : Kn w X (A ++ (p, D, F) :: B) Bs rows) (k : Keep F X X') (ho : OsF X' p D' G) (hm : More F X G) : Kn w X' (A ++ (p, D', G) :: B) Bs rows := by
  have hF := h.set (p, D, F) (by simp)
  have hap := List.pairwise_append.1 h.apart
  have hapB := List.pairwise_cons.1 hap.2.1
  have hne : ∀ s ∈ A ++ B, ∀ i, s.2.2 i → ¬ F i := by
    intro s hs i h1 h2
    rcases List.mem_append.1 hs with hs | hs
    · exact hap.2.2 s hs (p, D, F) (by simp) i h1 h2
    · exact hapB.1 s hs i h2 h1
  have hlt : ∀ s ∈ A ++ B, ∀ i, s.2.2 i → i < X.heap.size := by
    intro s hs
    refine (h.set s ?_).1.lt
    rcases List.mem_append.1 hs with hs | hs
    · exact List.mem_append.2 (.inl hs)
    · exact List.mem_append.2 (.inr (by simp [hs]))
  have hnG : ∀ s ∈ A ++ B, ∀ i, s.2.2 i → ¬ G i := by
    intro s hs i h1 h2
    rcases hm i h2 with h3 | h3
    · exact hne s hs i h1 h3
    · have := hlt s hs i h1; omega
  refine ⟨fun s hs => ?_, List.pairwise_append.2 ⟨hap.1, List.pairwise_cons.2 ⟨fun b hb i h1 h2 => hnG b (by simp [hb]) i h2 h1, hapB.2⟩, fun a ha b hb i h1 h2 => ?_⟩, fun b hb => ⟨(h.box b hb).1.kept k ((h.box b hb).2 (p, D, F) (by simp)), fun s hs => ?_⟩, fun r hr => (h.row r hr).keep fun i hi => k.block i ((h.row r hr).lt i hi).2 (hF.1.row (h.row r hr) (by decide) (by decide) (by decide) i hi), Keep.below h.bel k h.bel.size hF.2⟩
  · rcases List.mem_append.1 hs with hs | hs
    · exact ⟨(h.set s (by simp [hs])).1.kept k (hne s (by simp [hs])), (h.set s (by simp [hs])).2⟩
    · rcases List.mem_cons.1 hs with rfl | hs
      · refine ⟨ho, fun i hi => ?_⟩
        rcases hm i hi with h3 | h3
        · exact hF.2 i h3
        · exact Nat.le_trans h.bel.size h3
      · exact ⟨(h.set s (by simp [hs])).1.kept k (hne s (by simp [hs])), (h.set s (by simp [hs])).2⟩
  · rcases List.mem_cons.1 hb with rfl | hb
    · exact hnG a (by simp [ha]) i h1 h2
    · exact hap.2.2 a ha b (by simp [hb]) i h1 h2
  · rcases List.mem_append.1 hs with hs | hs
    · exact (h.box b hb).2 s (by simp [hs])
    · rcases List.mem_cons.1 hs with rfl | hs
      · intro hc
        rcases hm _ hc with h3 | h3
        · exact (h.box b hb).2 (p, D, F) (by simp) h3
        · have := (h.box b hb).1.lt; omega
      · exact (h.box b hb).2 s (by simp [hs])
theorem itc_one (i : It) (W : World) : SlK kIt (W.alloc (.cells #[.int .i64 i.d.1, .int .u64 (i.d.2 : Int), .string i.t, .string i.v, .bool i.g] 48)) (.slice (some ⟨W.heap.size, 0, none⟩) 1 1) [i] := SlK.one (k := kIt) W i _ rfl
end
set_option maxHeartbeats 8000000 in
theorem oknown_any (w : World) : Calls Tryz.prog 11 #[] w fun e w' => e = .returned (.bool true) ∧ Below w.heap.size w w' := by
  have hfo : Tryz.prog.follows .mixedOrders = true := by kernel_rfl
  go_enter Tryz.func11, Tryz.ntmps11
  go_wp2_with fail
  refine (fnew_any w).mono ?_
  rintro e w1 ⟨p, F0, rfl, ho, hlo, hb1⟩
  have hm := (Kn.start w).addSet hb1 ho hlo
  clear ho hlo hb1
  go_upto_region 4 with fail
  have hm4 := (((hm.newBox 39 #[.string nwT, .string nwD]).newBox 41 #[.int .i64 1, .int .u64 1]).newBox 41 #[.int .i64 2, .int .u64 1])
  simp only [World.size_alloc] at hm4
  change Code.wp _ _ _ _ (((w1.alloc (.cells #[.string nwT, .string nwD] 39)).alloc (.cells #[.int .i64 1, .int .u64 1] 41)).alloc (.cells #[.int .i64 2, .int .u64 1] 41))
  generalize ((w1.alloc (.cells #[.string nwT, .string nwD] 39)).alloc (.cells #[.int .i64 1, .int .u64 1] 41)).alloc (.cells #[.int .i64 2, .int .u64 1] 41) = w4 at hm4 ⊢
  clear hm
  have hm := hm4
  clear hm4
  obtain ⟨z2, hz2⟩ : ∃ z, w1.heap.size + 1 + 1 = z := ⟨_, rfl⟩
  obtain ⟨z1, hz1⟩ : ∃ z, w1.heap.size + 1 = z := ⟨_, rfl⟩
  obtain ⟨zk, hzk⟩ : ∃ z, w1.heap.size = z := ⟨_, rfl⟩
  rw [hz2, hz1, hzk] at hm
  rw [hz2, hz1, hzk]
  clear hz1 hz2 hzk
  have c_k0 : w4.cell? ⟨zk, 0, none⟩ = some (.string nwT) := by rw [(hm.box (zk, 39, #[.string nwT, .string nwD]) (by simp)).1.cell]; rfl
  have c_k1 : w4.cell? ⟨zk, 1, none⟩ = some (.string nwD) := by rw [(hm.box (zk, 39, #[.string nwT, .string nwD]) (by simp)).1.cell]; rfl
  have c_one0 : w4.cell? ⟨z1, 0, none⟩ = some (.int .i64 1) := by rw [(hm.box (z1, 41, #[.int .i64 1, .int .u64 1]) (by simp)).1.cell]; rfl
  have c_one1 : w4.cell? ⟨z1, 1, none⟩ = some (.int .u64 1) := by rw [(hm.box (z1, 41, #[.int .i64 1, .int .u64 1]) (by simp)).1.cell]; rfl
  have HA := Lib.hid (fadd_any (hm.set (p, kn0, F0) (by simp [kn0])).1 nwT nwD (1, 1) kn_a1 (by simp [kn0]) (by simp [kn0]))
  go_wp2_with fail
  refine HA.out.mono ?_
  rintro e w5 ⟨vA, rfl, hown1, ⟨F1, hs1, hm1⟩, hk1⟩
  have hs1' : OsF w5 p kn1 F1 := by rw [← kn_1]; exact hs1
  replace hm := Kn.op (A := []) (B := []) hm hk1 hs1' hm1
  clear c_k0 c_k1 c_one0 c_one1 HA hown1 hs1 hm1 hk1 hs1'
  have c_k0 : w5.cell? ⟨zk, 0, none⟩ = some (.string nwT) := by rw [(hm.box (zk, 39, #[.string nwT, .string nwD]) (by simp)).1.cell]; rfl
  have c_k1 : w5.cell? ⟨zk, 1, none⟩ = some (.string nwD) := by rw [(hm.box (zk, 39, #[.string nwT, .string nwD]) (by simp)).1.cell]; rfl
  have c_two0 : w5.cell? ⟨z2, 0, none⟩ = some (.int .i64 2) := by rw [(hm.box (z2, 41, #[.int .i64 2, .int .u64 1]) (by simp)).1.cell]; rfl
  have c_two1 : w5.cell? ⟨z2, 1, none⟩ = some (.int .u64 1) := by rw [(hm.box (z2, 41, #[.int .i64 2, .int .u64 1]) (by simp)).1.cell]; rfl
  have HA := Lib.hid (fadd_any (hm.set (p, kn1, F1) (by simp)).1 nwT nwD (2, 1) kn_a2 (by simp [kn1]) (by simp [kn1]))
  have hz5 := hm.bel.size
  go_wp2_with fail
  refine HA.out.mono ?_
  rintro e w6 ⟨vl, rfl, hown1, ⟨F2, hs1, hm1⟩, hk1⟩
  rw [kn_g] at hown1 hs1
  have hs1' : OsF w6 p kn2 F2 := by rw [← kn_2]; exact hs1
  replace hm := (Kn.op (A := []) (B := []) hm hk1 hs1' hm1).addRow hown1 hz5
  obtain ⟨Al, cl, hvl⟩ := hown1.shape
  replace hvl : vl = .slice Al 2 cl := hvl
  clear c_k0 c_k1 c_two0 c_two1 HA hown1 hs1 hm1 hk1 hs1' hz5
  have c_two0 : w6.cell? ⟨z2, 0, none⟩ = some (.int .i64 2) := by rw [(hm.box (z2, 41, #[.int .i64 2, .int .u64 1]) (by simp)).1.cell]; rfl
  have c_two1 : w6.cell? ⟨z2, 1, none⟩ = some (.int .u64 1) := by rw [(hm.box (z2, 41, #[.int .i64 2, .int .u64 1]) (by simp)).1.cell]; rfl
  have HA := Lib.hid (flive_any (hm.set (p, kn2, F2) (by simp)).1 (2, 1) (by unfold OkD; decide))
  rw [kn_l2, kn_k2] at HA
  go_wp2_with fail
  refine HA.out.mono ?_
  rintro e w7 ⟨rfl, hb7⟩
  replace hm := hm.below hb7
  clear c_two0 c_two1 HA hb7
  go_upto_region 8 with fail
  replace hm := (hm.below (X' := w7.alloc (.cells #[.string nwT, .string nwD] 39)) ((Below.refl _ _).alloc (Nat.le_refl _) _)).newBox 41 #[.int .i64 3, .int .u64 4]
  simp only [World.size_alloc] at hm
  change Code.wp _ _ _ _ ((w7.alloc (.cells #[.string nwT, .string nwD] 39)).alloc (.cells #[.int .i64 3, .int .u64 4] 41))
  generalize (w7.alloc (.cells #[.string nwT, .string nwD] 39)).alloc (.cells #[.int .i64 3, .int .u64 4] 41) = w8 at hm ⊢
  obtain ⟨z3, hz3⟩ : ∃ z, w7.heap.size + 1 = z := ⟨_, rfl⟩
  rw [hz3] at hm
  rw [hz3]
  clear hz3
  have c_three0 : w8.cell? ⟨z3, 0, none⟩ = some (.int .i64 3) := by rw [(hm.box (z3, 41, #[.int .i64 3, .int .u64 4]) (by simp)).1.cell]; rfl
  have c_three1 : w8.cell? ⟨z3, 1, none⟩ = some (.int .u64 4) := by rw [(hm.box (z3, 41, #[.int .i64 3, .int .u64 4]) (by simp)).1.cell]; rfl
  have hS := itc_one (goneI (3, 4)) w8
  have HA := Lib.hid (fsee_any ((hm.below ((Below.refl w8.heap.size w8).alloc (Nat.le_refl _) (.cells #[.int .i64 3, .int .u64 4, .string ⟨#[]⟩, .string ⟨#[]⟩, .bool true] 48))).set (p, kn2, F2) (by simp)).1 _ [goneI (3, 4)] hS (by simp [kn2]) (by simp [kn2]))
  replace hm := hm.below ((Below.refl w8.heap.size w8).alloc (Nat.le_refl _) (.cells #[.int .i64 3, .int .u64 4, .string ⟨#[]⟩, .string ⟨#[]⟩, .bool true] 48))
  clear hS
  go_wp2_with fail
  refine HA.out.mono ?_
  rintro e w9 ⟨bs, cs, rfl, ⟨⟨i, hi, hf⟩, _⟩ | ⟨_, _, _, ⟨F3, hs1, hm1⟩, hk1⟩⟩
  · rw [List.mem_singleton.1 hi, kn_o3] at hf; cases hf
  have hs1' : OsF w9 p kn3 F3 := by rw [← kn_3]; exact hs1
  replace hm := Kn.op (A := []) (B := []) hm hk1 hs1' hm1
  clear c_three0 c_three1 HA hs1 hm1 hk1 hs1'
  have c_three0 : w9.cell? ⟨z3, 0, none⟩ = some (.int .i64 3) := by rw [(hm.box (z3, 41, #[.int .i64 3, .int .u64 4]) (by simp)).1.cell]; rfl
  have c_three1 : w9.cell? ⟨z3, 1, none⟩ = some (.int .u64 4) := by rw [(hm.box (z3, 41, #[.int .i64 3, .int .u64 4]) (by simp)).1.cell]; rfl
  have c_k0 : w9.cell? ⟨zk, 0, none⟩ = some (.string nwT) := by rw [(hm.box (zk, 39, #[.string nwT, .string nwD]) (by simp)).1.cell]; rfl
  have c_k1 : w9.cell? ⟨zk, 1, none⟩ = some (.string nwD) := by rw [(hm.box (zk, 39, #[.string nwT, .string nwD]) (by simp)).1.cell]; rfl
  have hS := itc_one knX3 w9
  have HA := Lib.hid (fsee_any ((hm.below ((Below.refl w9.heap.size w9).alloc (Nat.le_refl _) (.cells #[.int .i64 3, .int .u64 4, .string nwT, .string nwD, .bool false] 48))).set (p, kn3, F3) (by simp)).1 _ [knX3] hS (by simp [kn3]) (by simp [kn3]))
  replace hm := hm.below ((Below.refl w9.heap.size w9).alloc (Nat.le_refl _) (.cells #[.int .i64 3, .int .u64 4, .string nwT, .string nwD, .bool false] 48))
  clear hS
  go_wp2_with fail
  refine HA.out.mono ?_
  rintro e w10 ⟨bs, cs, rfl, ⟨⟨i, hi, hf⟩, _⟩ | ⟨_, _, _, ⟨F4, hs1, hm1⟩, hk1⟩⟩
  · rw [List.mem_singleton.1 hi, kn_ox3] at hf; cases hf
  have hs1' : OsF w10 p kn3 F4 := by rw [← kn_4]; exact hs1
  replace hm := Kn.op (A := []) (B := []) hm hk1 hs1' hm1
  clear c_three0 c_three1 c_k0 c_k1 HA hs1 hm1 hk1 hs1'
  have c_three0 : w10.cell? ⟨z3, 0, none⟩ = some (.int .i64 3) := by rw [(hm.box (z3, 41, #[.int .i64 3, .int .u64 4]) (by simp)).1.cell]; rfl
  have c_three1 : w10.cell? ⟨z3, 1, none⟩ = some (.int .u64 4) := by rw [(hm.box (z3, 41, #[.int .i64 3, .int .u64 4]) (by simp)).1.cell]; rfl
  have HA := Lib.hid (flive_any (hm.set (p, kn3, F4) (by simp)).1 (3, 4) (by unfold OkD; decide))
  rw [kn_l3, kn_k3] at HA
  go_wp2_with fail
  refine HA.out.mono ?_
  rintro e w11 ⟨rfl, hb11⟩
  replace hm := (hm.below hb11).below ((Below.refl w11.heap.size w11).alloc (Nat.le_refl _) (.cells #[.string ⟨#[]⟩, .string ⟨#[]⟩] 39))
  clear c_three0 c_three1 HA hb11
  go_upto_region 11 with fail
  change Code.wp _ _ _ _ (w11.alloc (.cells #[.string ⟨#[]⟩, .string ⟨#[]⟩] 39))
  generalize w11.alloc (.cells #[.string ⟨#[]⟩, .string ⟨#[]⟩] 39) = W11 at hm ⊢
  have hm11 := hm
  clear hm
  have HGONE1 := Lib.hid (show ∀ X, OsF X p kn3 F4 → Calls Tryz.prog 24 #[.pointer (some ⟨p, 0, none⟩), .agg #[.int .i64 1, .int .u64 1]] X fun e X' => e = .returned (.bool true) ∧ Below X.heap.size X X' from fun X h => by
    have hh := fgone_any h (by simp [kn3]) (1, 1) (by unfold OkD; decide)
    rw [kn_g1] at hh
    exact hh)
  have HGONE3 := Lib.hid (show ∀ X, OsF X p kn3 F4 → Calls Tryz.prog 24 #[.pointer (some ⟨p, 0, none⟩), .agg #[.int .i64 3, .int .u64 4]] X fun e X' => e = .returned (.bool true) ∧ Below X.heap.size X X' from fun X h => by
    have hh := fgone_any h (by simp [kn3]) (3, 4) (by unfold OkD; decide)
    rw [kn_g3] at hh
    exact hh)
  have HHAS := Lib.hid (show ∀ X, OsF X p kn3 F4 → Calls Tryz.prog 19 #[.pointer (some ⟨p, 0, none⟩), .agg #[.string nwT, .string nwD]] X fun e X' => e = .returned (.bool true) ∧ Below X.heap.size X X' from fun X h => by
    have hh := fhas_any h nwT nwD
    rw [kn_h] at hh
    exact hh)
  replace hm11 : Kn w W11 [(p, kn3, F4)] [(z3, 41, #[.int .i64 3, .int .u64 4]), (z2, 41, #[.int .i64 2, .int .u64 1]), (z1, 41, #[.int .i64 1, .int .u64 1]), (zk, 39, #[.string nwT, .string nwD])] [(vl, [knX2, goneI (1, 1)])] := hm11
  subst hvl
  obtain ⟨bA, oA, eA, _⟩ := (hm11.row _ (show (.slice Al 2 cl, [knX2, goneI (1, 1)]) ∈ _ by simp)).slk.item 0 (by simp) knX2 rfl
  subst eA
  refine wp_region_held_drew (S := fun X => Below W11.drew.heap.size W11.drew X) hfo (Below.refl _ _) (fun hS0 => ?_)
  have hm := hm11.below (show Below W11.heap.size W11 W11.drew from (Below.refl _ _).drew)
  generalize W11.drew = Z0 at hS0 hm ⊢
  refine' wpAnyH_take (i := 0) (oi := ⟨some 56, _, _, _, _, _⟩) (v := _) rfl (by kernel_rfl) (by kernel_rfl) (by kernel_rfl) (fun _ _ _ h => h) (Or.inl ⟨by rfl, ?y0a⟩) hS0 ?r0a
  case y0a =>
    intro w' hSw
    go_simp
    try rfl
  try simp only [Act.put, List.setIfInBounds_toArray, List.set_cons_zero, List.set_cons_succ]
  refine' wpAnyH_take (i := 1) (oi := ⟨some 57, _, _, _, _, _⟩) (v := .bool true) rfl (by kernel_rfl) (by kernel_rfl) (by kernel_rfl) (fun _ _ _ h => h) (Or.inl ⟨by rfl, ?y1a⟩) hS0 ?r1a
  case y1a =>
    intro w' hSw
    go_simp
    try rfl
  try simp only [Act.put, List.setIfInBounds_toArray, List.set_cons_zero, List.set_cons_succ]
  refine' wpAnyH_take (i := 2) (oi := ⟨some 58, _, _, _, _, _⟩) (v := _) rfl (by kernel_rfl) (by kernel_rfl) (by kernel_rfl) (fun _ _ _ h => h) (Or.inl ⟨by rfl, ?y2a⟩) hS0 ?r2a
  case y2a =>
    intro w' hSw
    go_simp
    try rfl
  try simp only [Act.put, List.setIfInBounds_toArray, List.set_cons_zero, List.set_cons_succ]
  refine' wpAnyH_take (i := 3) (oi := ⟨some 59, _, _, _, _, _⟩) (v := _) rfl (by kernel_rfl) (by kernel_rfl) (by kernel_rfl) (fun _ _ _ h => h) (Or.inl ⟨by rfl, ?y3a⟩) hS0 ?r3a
  case y3a =>
    intro w' hSw
    go_simp
    try rfl
  try simp only [Act.put, List.setIfInBounds_toArray, List.set_cons_zero, List.set_cons_succ]
  refine' wpAnyH_take (i := 4) (oi := ⟨some 60, _, _, _, _, _⟩) (v := .bool true) rfl (by kernel_rfl) (by kernel_rfl) (by kernel_rfl) (fun _ _ _ h => h) (Or.inl ⟨by rfl, ?y4a⟩) hS0 ?r4a
  case y4a =>
    intro w' hSw
    go_simp
    try rfl
  try simp only [Act.put, List.setIfInBounds_toArray, List.set_cons_zero, List.set_cons_succ]
  refine' wpAnyH_take (i := 5) (oi := ⟨some 61, _, _, _, _, _⟩) (v := .bool true) rfl (by kernel_rfl) (by kernel_rfl) (by kernel_rfl) (fun _ _ _ h => h) (Or.inl ⟨by rfl, ?y5a⟩) hS0 ?r5a
  case y5a =>
    intro w' hSw
    go_simp
    try rfl
  try simp only [Act.put, List.setIfInBounds_toArray, List.set_cons_zero, List.set_cons_succ]
  refine' wpAnyH_take (i := 6) (oi := ⟨some 62, _, _, _, _, _⟩) (v := _) rfl (by kernel_rfl) (by kernel_rfl) (by kernel_rfl) (fun _ _ _ h => h) (Or.inl ⟨by rfl, ?y6a⟩) hS0 ?r6a
  case y6a =>
    intro w' hSw
    go_simp
    try rfl
  try simp only [Act.put, List.setIfInBounds_toArray, List.set_cons_zero, List.set_cons_succ]
  refine' wpAnyH_take (i := 7) (oi := ⟨some 63, _, _, _, _, _⟩) (v := _) rfl (by kernel_rfl) (by kernel_rfl) (by kernel_rfl) (fun _ _ _ h => h) (Or.inl ⟨by rfl, ?y7a⟩) hS0 ?r7a
  case y7a =>
    intro w' hSw
    go_simp
    try rfl
  try simp only [Act.put, List.setIfInBounds_toArray, List.set_cons_zero, List.set_cons_succ]
  refine' wpAnyH_take (i := 8) (oi := ⟨some 64, _, _, _, _, _⟩) (v := .int .i64 2) rfl (by kernel_rfl) (by kernel_rfl) (by kernel_rfl) (fun _ _ _ h => h) (Or.inl ⟨by rfl, ?y8a⟩) hS0 ?r8a
  case y8a =>
    intro w' hSw
    go_simp
    try rfl
  try simp only [Act.put, List.setIfInBounds_toArray, List.set_cons_zero, List.set_cons_succ]
  refine' wpAnyH_take (i := 9) (oi := ⟨some 65, _, _, _, _, _⟩) (v := .bool true) rfl (by kernel_rfl) (by kernel_rfl) (by kernel_rfl) (fun _ _ _ h => h) (Or.inl ⟨by rfl, ?y9a⟩) hS0 ?r9a
  case y9a =>
    intro w' hSw
    go_simp
    try rfl
  try simp only [Act.put, List.setIfInBounds_toArray, List.set_cons_zero, List.set_cons_succ]
  refine' wpAnyH_take (i := 10) (oi := ⟨some 66, _, _, _, _, _⟩) (v := .bool true) rfl (by kernel_rfl) (by kernel_rfl) (by kernel_rfl) (fun _ _ _ h => h) (Or.inl ⟨by rfl, ?y10a⟩) hS0 ?r10a
  case y10a =>
    intro w' hSw
    go_simp
    try rfl
  try simp only [Act.put, List.setIfInBounds_toArray, List.set_cons_zero, List.set_cons_succ]
  refine' wpAnyH_take (i := 11) (oi := ⟨some 67, _, _, _, _, _⟩) (v := _) rfl (by kernel_rfl) (by kernel_rfl) (by kernel_rfl) (fun _ _ _ h => h) (Or.inl ⟨by rfl, ?y11a⟩) hS0 ?r11a
  case y11a =>
    intro w' hSw
    go_simp
    try rfl
  try simp only [Act.put, List.setIfInBounds_toArray, List.set_cons_zero, List.set_cons_succ]
  refine' wpAnyH_take (i := 12) (oi := ⟨some 68, _, _, _, _, _⟩) (v := _) rfl (by kernel_rfl) (by kernel_rfl) (by kernel_rfl) (fun _ _ _ h => h) (Or.inl ⟨by rfl, ?y12a⟩) hS0 ?r12a
  case y12a =>
    intro w' hSw
    go_simp
    try rfl
  try simp only [Act.put, List.setIfInBounds_toArray, List.set_cons_zero, List.set_cons_succ]
  refine' wpAnyH_take (i := 13) (oi := ⟨some 69, _, _, _, _, _⟩) (v := _) rfl (by kernel_rfl) (by kernel_rfl) (by kernel_rfl) (fun _ _ _ h => h) (Or.inl ⟨by rfl, ?y13a⟩) hS0 ?r13a
  case y13a =>
    intro w' hSw
    go_simp
    try rfl
  try simp only [Act.put, List.setIfInBounds_toArray, List.set_cons_zero, List.set_cons_succ]
  refine' wpAnyH_take (i := 14) (oi := ⟨some 70, _, _, _, _, _⟩) (v := _) rfl (by kernel_rfl) (by kernel_rfl) (by kernel_rfl) (fun _ _ _ h => h) (Or.inl ⟨by rfl, ?y14a⟩) hS0 ?r14a
  case y14a =>
    intro w' hSw
    go_simp
    try rfl
  try simp only [Act.put, List.setIfInBounds_toArray, List.set_cons_zero, List.set_cons_succ]
  refine' wpAnyH_take (i := 15) (oi := ⟨some 71, _, _, _, _, _⟩) (v := _) rfl (by kernel_rfl) (by kernel_rfl) (by kernel_rfl) (fun _ _ _ h => h) (Or.inl ⟨by rfl, ?y15a⟩) hS0 ?r15a
  case y15a =>
    intro w' hSw
    have hM := hm.below hSw
    have hR : SlK kIt w' _ [knX2, goneI (1, 1)] := (hM.row _ (show (.slice (some ⟨bA, oA, none⟩) 2 cl, [knX2, goneI (1, 1)]) ∈ _ by simp)).slk
    obtain ⟨b, o, e0, r0, r1, r2, r3, r4⟩ := hR.item 0 (by simp) knX2 rfl
    injection e0 with e0
    injection e0 with e1 e2
    subst e1; subst e2
    have q0 : w'.cell? ⟨bA, oA, none⟩ = some (.int .i64 2) := r0
    have q1 : w'.cell? ⟨bA, oA + 1, none⟩ = some (.int .u64 1) := r1
    clear r0 r1 r2 r3 r4 hR
    go_simp
    try rfl
  try simp only [Act.put, List.setIfInBounds_toArray, List.set_cons_zero, List.set_cons_succ]
  refine' wpAnyH_take (i := 16) (oi := ⟨some 72, _, _, _, _, _⟩) (v := _) rfl (by kernel_rfl) (by kernel_rfl) (by kernel_rfl) (fun _ _ _ h => h) (Or.inl ⟨by rfl, ?y16a⟩) hS0 ?r16a
  case y16a =>
    intro w' hSw
    have hM := hm.below hSw
    have hb_two := (hM.box _ (show (z2, 41, #[.int .i64 2, .int .u64 1]) ∈ _ by simp)).1
    have c_two0 : w'.cell? ⟨z2, 0, none⟩ = some (.int .i64 2) := (by rw [hb_two.cell]; rfl)
    have c_two1 : w'.cell? ⟨z2, 1, none⟩ = some (.int .u64 1) := (by rw [hb_two.cell]; rfl)
    go_simp
    try rfl
  try simp only [Act.put, List.setIfInBounds_toArray, List.set_cons_zero, List.set_cons_succ]
  refine' wpAnyH_take (i := 17) (oi := ⟨some 73, _, _, _, _, _⟩) (v := .bool true) rfl (by kernel_rfl) (by kernel_rfl) (by kernel_rfl) (fun _ _ _ h => h) (Or.inl ⟨by rfl, ?y17a⟩) hS0 ?r17a
  case y17a =>
    intro w' hSw
    have hde : (Op.equalIn 10000 41 (.agg #[.int .i64 2, .int .u64 1]) (.agg #[.int .i64 2, .int .u64 1])).run Tryz.prog w' = .ok true w' := dot_eq (2, 1) (2, 1) w'
    go_simp
    try rfl
  try simp only [Act.put, List.setIfInBounds_toArray, List.set_cons_zero, List.set_cons_succ]
  refine' wpAnyH_take (i := 18) (oi := ⟨some 74, _, _, _, _, _⟩) (v := .bool true) rfl (by kernel_rfl) (by kernel_rfl) (by kernel_rfl) (fun _ _ _ h => h) (Or.inl ⟨by rfl, ?y18a⟩) hS0 ?r18a
  case y18a =>
    intro w' hSw
    go_simp
    try rfl
  try simp only [Act.put, List.setIfInBounds_toArray, List.set_cons_zero, List.set_cons_succ]
  refine' wpAnyH_take (i := 19) (oi := ⟨some 75, _, _, _, _, _⟩) (v := _) rfl (by kernel_rfl) (by kernel_rfl) (by kernel_rfl) (fun _ _ _ h => h) (Or.inl ⟨by rfl, ?y19a⟩) hS0 ?r19a
  case y19a =>
    intro w' hSw
    go_simp
    try rfl
  try simp only [Act.put, List.setIfInBounds_toArray, List.set_cons_zero, List.set_cons_succ]
  refine' wpAnyH_take (i := 20) (oi := ⟨some 76, _, _, _, _, _⟩) (v := _) rfl (by kernel_rfl) (by kernel_rfl) (by kernel_rfl) (fun _ _ _ h => h) (Or.inl ⟨by rfl, ?y20a⟩) hS0 ?r20a
  case y20a =>
    intro w' hSw
    go_simp
    try rfl
  try simp only [Act.put, List.setIfInBounds_toArray, List.set_cons_zero, List.set_cons_succ]
  refine' wpAnyH_take (i := 21) (oi := ⟨some 77, _, _, _, _, _⟩) (v := _) rfl (by kernel_rfl) (by kernel_rfl) (by kernel_rfl) (fun _ _ _ h => h) (Or.inl ⟨by rfl, ?y21a⟩) hS0 ?r21a
  case y21a =>
    intro w' hSw
    go_simp
    try rfl
  try simp only [Act.put, List.setIfInBounds_toArray, List.set_cons_zero, List.set_cons_succ]
  refine' wpAnyH_take (i := 22) (oi := ⟨some 78, _, _, _, _, _⟩) (v := _) rfl (by kernel_rfl) (by kernel_rfl) (by kernel_rfl) (fun _ _ _ h => h) (Or.inl ⟨by rfl, ?y22a⟩) hS0 ?r22a
  case y22a =>
    intro w' hSw
    have hM := hm.below hSw
    have hR : SlK kIt w' _ [knX2, goneI (1, 1)] := (hM.row _ (show (.slice (some ⟨bA, oA, none⟩) 2 cl, [knX2, goneI (1, 1)]) ∈ _ by simp)).slk
    obtain ⟨b, o, e0, r0, r1, r2, r3, r4⟩ := hR.item 1 (by simp) (goneI (1, 1)) rfl
    injection e0 with e0
    injection e0 with e1 e2
    subst e1; subst e2
    have q0 : w'.cell? ⟨bA, oA + 5, none⟩ = some (.int .i64 1) := r0
    have q1 : w'.cell? ⟨bA, oA + 5 + 1, none⟩ = some (.int .u64 1) := r1
    have q2 : w'.cell? ⟨bA, oA + 5 + 2, none⟩ = some (.string ⟨#[]⟩) := r2
    have q3 : w'.cell? ⟨bA, oA + 5 + 3, none⟩ = some (.string ⟨#[]⟩) := r3
    have q4 : w'.cell? ⟨bA, oA + 5 + 4, none⟩ = some (.bool true) := r4
    clear r0 r1 r2 r3 r4 hR
    go_simp
    try rfl
  try simp only [Act.put, List.setIfInBounds_toArray, List.set_cons_zero, List.set_cons_succ]
  refine' wpAnyH_take (i := 23) (oi := ⟨some 79, _, _, _, _, _⟩) (v := _) rfl (by kernel_rfl) (by kernel_rfl) (by kernel_rfl) (fun _ _ _ h => h) (Or.inl ⟨by rfl, ?y23a⟩) hS0 ?r23a
  case y23a =>
    intro w' hSw
    have hM := hm.below hSw
    have hb_one := (hM.box _ (show (z1, 41, #[.int .i64 1, .int .u64 1]) ∈ _ by simp)).1
    have c_one0 : w'.cell? ⟨z1, 0, none⟩ = some (.int .i64 1) := (by rw [hb_one.cell]; rfl)
    have c_one1 : w'.cell? ⟨z1, 1, none⟩ = some (.int .u64 1) := (by rw [hb_one.cell]; rfl)
    go_simp
    try rfl
  try simp only [Act.put, List.setIfInBounds_toArray, List.set_cons_zero, List.set_cons_succ]
  refine' wpAnyH_take (i := 24) (oi := ⟨some 80, _, _, _, _, _⟩) (v := _) rfl (by kernel_rfl) (by kernel_rfl) (by kernel_rfl) (fun _ _ _ h => h) (Or.inl ⟨by rfl, ?y24a⟩) hS0 ?r24a
  case y24a =>
    intro w' hSw
    go_simp
    try rfl
  try simp only [Act.put, List.setIfInBounds_toArray, List.set_cons_zero, List.set_cons_succ]
  refine' wpAnyH_take (i := 25) (oi := ⟨some 81, _, _, _, _, _⟩) (v := .bool true) rfl (by kernel_rfl) (by kernel_rfl) (by kernel_rfl) (fun _ _ _ h => h) (Or.inl ⟨by rfl, ?y25a⟩) hS0 ?r25a
  case y25a =>
    intro w' hSw
    have hie : (Op.equalIn 10000 48 (.agg #[.int .i64 1, .int .u64 1, .string ⟨#[]⟩, .string ⟨#[]⟩, .bool true]) (.agg #[.int .i64 1, .int .u64 1, .string ⟨#[]⟩, .string ⟨#[]⟩, .bool true])).run Tryz.prog w' = .ok true w' := (item_eq (goneI (1, 1)) (goneI (1, 1)) w').trans (by rw [decide_eq_true rfl])
    go_simp
    try rfl
  try simp only [Act.put, List.setIfInBounds_toArray, List.set_cons_zero, List.set_cons_succ]
  refine' wpAnyH_take (i := 26) (oi := ⟨some 82, _, _, _, _, _⟩) (v := .bool true) rfl (by kernel_rfl) (by kernel_rfl) (by kernel_rfl) (fun _ _ _ h => h) (Or.inl ⟨by rfl, ?y26a⟩) hS0 ?r26a
  case y26a =>
    intro w' hSw
    go_simp
    try rfl
  try simp only [Act.put, List.setIfInBounds_toArray, List.set_cons_zero, List.set_cons_succ]
  refine' wpAnyH_take (i := 27) (oi := ⟨some 83, _, _, _, _, _⟩) (v := _) rfl (by kernel_rfl) (by kernel_rfl) (by kernel_rfl) (fun _ _ _ h => h) (Or.inl ⟨by rfl, ?y27a⟩) hS0 ?r27a
  case y27a =>
    intro w' hSw
    go_simp
    try rfl
  try simp only [Act.put, List.setIfInBounds_toArray, List.set_cons_zero, List.set_cons_succ]
  refine' wpAnyH_take (i := 28) (oi := ⟨some 84, _, _, _, _, _⟩) (v := _) rfl (by kernel_rfl) (by kernel_rfl) (by kernel_rfl) (fun _ _ _ h => h) (Or.inl ⟨by rfl, ?y28a⟩) hS0 ?r28a
  case y28a =>
    intro w' hSw
    go_simp
    try rfl
  try simp only [Act.put, List.setIfInBounds_toArray, List.set_cons_zero, List.set_cons_succ]
  refine' wpAnyH_take (i := 29) (oi := ⟨some 85, _, _, _, _, _⟩) (v := .bool true) rfl (by kernel_rfl) (by kernel_rfl) (by kernel_rfl) (fun _ _ _ h => h) (Or.inl ⟨by rfl, ?y29a⟩) hS0 ?r29a
  case y29a =>
    intro w' hSw
    go_simp
    try rfl
  try simp only [Act.put, List.setIfInBounds_toArray, List.set_cons_zero, List.set_cons_succ]
  refine' wpAnyH_take (i := 30) (oi := ⟨some 86, _, _, _, _, _⟩) (v := _) rfl (by kernel_rfl) (by kernel_rfl) (by kernel_rfl) (fun _ _ _ h => h) (Or.inl ⟨by rfl, ?y30a⟩) hS0 ?r30a
  case y30a =>
    intro w' hSw
    go_simp
    try rfl
  try simp only [Act.put, List.setIfInBounds_toArray, List.set_cons_zero, List.set_cons_succ]
  refine' wpAnyH_take (i := 31) (oi := ⟨some 87, _, _, _, _, _⟩) (v := _) rfl (by kernel_rfl) (by kernel_rfl) (by kernel_rfl) (fun _ _ _ h => h) (Or.inl ⟨by rfl, ?y31a⟩) hS0 ?r31a
  case y31a =>
    intro w' hSw
    go_simp
    try rfl
  try simp only [Act.put, List.setIfInBounds_toArray, List.set_cons_zero, List.set_cons_succ]
  refine' wpAnyH_take (i := 32) (oi := ⟨some 88, _, _, _, _, _⟩) (v := _) rfl (by kernel_rfl) (by kernel_rfl) (by kernel_rfl) (fun _ _ _ h => h) (Or.inl ⟨by rfl, ?y32a⟩) hS0 ?r32a
  case y32a =>
    intro w' hSw
    have hM := hm.below hSw
    have hb_one := (hM.box _ (show (z1, 41, #[.int .i64 1, .int .u64 1]) ∈ _ by simp)).1
    have c_one0 : w'.cell? ⟨z1, 0, none⟩ = some (.int .i64 1) := (by rw [hb_one.cell]; rfl)
    have c_one1 : w'.cell? ⟨z1, 1, none⟩ = some (.int .u64 1) := (by rw [hb_one.cell]; rfl)
    go_simp
    try rfl
  try simp only [Act.put, List.setIfInBounds_toArray, List.set_cons_zero, List.set_cons_succ]
  refine held_one (i := 33) (by kernel_rfl) rfl (fun Kc hK => ?_)
  go_simp
  refine (HGONE1.out _ ((hm.below hS0).set (p, kn3, F4) (by simp)).1).mono ?_
  rintro e Z33 ⟨rfl, hz33⟩
  have hS33 := hS0.trans (hz33.mono hS0.size)
  refine hK.out _ _ hS33 (fun _ => ?_)
  clear hK Kc
  try simp only [Act.put, List.setIfInBounds_toArray, List.set_cons_zero, List.set_cons_succ]
  refine' wpAnyH_take (i := 34) (oi := ⟨some 90, _, _, _, _, _⟩) (v := .bool true) rfl (by kernel_rfl) (by kernel_rfl) (by kernel_rfl) (fun _ _ _ h => h) (Or.inl ⟨by rfl, ?y34a⟩) hS33 ?r34a
  case y34a =>
    intro w' hSw
    go_simp
    try rfl
  try simp only [Act.put, List.setIfInBounds_toArray, List.set_cons_zero, List.set_cons_succ]
  refine' wpAnyH_take (i := 35) (oi := ⟨some 91, _, _, _, _, _⟩) (v := _) rfl (by kernel_rfl) (by kernel_rfl) (by kernel_rfl) (fun _ _ _ h => h) (Or.inl ⟨by rfl, ?y35a⟩) hS33 ?r35a
  case y35a =>
    intro w' hSw
    go_simp
    try rfl
  try simp only [Act.put, List.setIfInBounds_toArray, List.set_cons_zero, List.set_cons_succ]
  refine' wpAnyH_take (i := 36) (oi := ⟨some 92, _, _, _, _, _⟩) (v := _) rfl (by kernel_rfl) (by kernel_rfl) (by kernel_rfl) (fun _ _ _ h => h) (Or.inl ⟨by rfl, ?y36a⟩) hS33 ?r36a
  case y36a =>
    intro w' hSw
    go_simp
    try rfl
  try simp only [Act.put, List.setIfInBounds_toArray, List.set_cons_zero, List.set_cons_succ]
  refine' wpAnyH_take (i := 37) (oi := ⟨some 93, _, _, _, _, _⟩) (v := _) rfl (by kernel_rfl) (by kernel_rfl) (by kernel_rfl) (fun _ _ _ h => h) (Or.inl ⟨by rfl, ?y37a⟩) hS33 ?r37a
  case y37a =>
    intro w' hSw
    have hM := hm.below hSw
    have hb_k := (hM.box _ (show (zk, 39, #[.string nwT, .string nwD]) ∈ _ by simp)).1
    have c_k0 : w'.cell? ⟨zk, 0, none⟩ = some (.string nwT) := (by rw [hb_k.cell]; rfl)
    have c_k1 : w'.cell? ⟨zk, 1, none⟩ = some (.string nwD) := (by rw [hb_k.cell]; rfl)
    go_simp
    try rfl
  try simp only [Act.put, List.setIfInBounds_toArray, List.set_cons_zero, List.set_cons_succ]
  refine held_one (i := 38) (by kernel_rfl) rfl (fun Kc hK => ?_)
  go_simp
  refine (HHAS.out _ ((hm.below hS33).set (p, kn3, F4) (by simp)).1).mono ?_
  rintro e Z38 ⟨rfl, hz38⟩
  have hS38 := hS33.trans (hz38.mono hS33.size)
  refine hK.out _ _ hS38 (fun _ => ?_)
  clear hK Kc
  try simp only [Act.put, List.setIfInBounds_toArray, List.set_cons_zero, List.set_cons_succ]
  refine' wpAnyH_take (i := 39) (oi := ⟨some 95, _, _, _, _, _⟩) (v := .bool true) rfl (by kernel_rfl) (by kernel_rfl) (by kernel_rfl) (fun _ _ _ h => h) (Or.inl ⟨by rfl, ?y39a⟩) hS38 ?r39a
  case y39a =>
    intro w' hSw
    go_simp
    try rfl
  try simp only [Act.put, List.setIfInBounds_toArray, List.set_cons_zero, List.set_cons_succ]
  refine' wpAnyH_take (i := 40) (oi := ⟨some 96, _, _, _, _, _⟩) (v := _) rfl (by kernel_rfl) (by kernel_rfl) (by kernel_rfl) (fun _ _ _ h => h) (Or.inl ⟨by rfl, ?y40a⟩) hS38 ?r40a
  case y40a =>
    intro w' hSw
    go_simp
    try rfl
  try simp only [Act.put, List.setIfInBounds_toArray, List.set_cons_zero, List.set_cons_succ]
  refine' wpAnyH_take (i := 41) (oi := ⟨some 97, _, _, _, _, _⟩) (v := _) rfl (by kernel_rfl) (by kernel_rfl) (by kernel_rfl) (fun _ _ _ h => h) (Or.inl ⟨by rfl, ?y41a⟩) hS38 ?r41a
  case y41a =>
    intro w' hSw
    go_simp
    try rfl
  try simp only [Act.put, List.setIfInBounds_toArray, List.set_cons_zero, List.set_cons_succ]
  refine' wpAnyH_take (i := 42) (oi := ⟨some 98, _, _, _, _, _⟩) (v := .bool true) rfl (by kernel_rfl) (by kernel_rfl) (by kernel_rfl) (fun _ _ _ h => h) (Or.inl ⟨by rfl, ?y42a⟩) hS38 ?r42a
  case y42a =>
    intro w' hSw
    go_simp
    try rfl
  try simp only [Act.put, List.setIfInBounds_toArray, List.set_cons_zero, List.set_cons_succ]
  refine' wpAnyH_take (i := 43) (oi := ⟨some 99, _, _, _, _, _⟩) (v := .bool true) rfl (by kernel_rfl) (by kernel_rfl) (by kernel_rfl) (fun _ _ _ h => h) (Or.inl ⟨by rfl, ?y43a⟩) hS38 ?r43a
  case y43a =>
    intro w' hSw
    go_simp
    try rfl
  try simp only [Act.put, List.setIfInBounds_toArray, List.set_cons_zero, List.set_cons_succ]
  refine' wpAnyH_take (i := 44) (oi := ⟨some 100, _, _, _, _, _⟩) (v := _) rfl (by kernel_rfl) (by kernel_rfl) (by kernel_rfl) (fun _ _ _ h => h) (Or.inl ⟨by rfl, ?y44a⟩) hS38 ?r44a
  case y44a =>
    intro w' hSw
    go_simp
    try rfl
  try simp only [Act.put, List.setIfInBounds_toArray, List.set_cons_zero, List.set_cons_succ]
  refine' wpAnyH_take (i := 45) (oi := ⟨some 101, _, _, _, _, _⟩) (v := _) rfl (by kernel_rfl) (by kernel_rfl) (by kernel_rfl) (fun _ _ _ h => h) (Or.inl ⟨by rfl, ?y45a⟩) hS38 ?r45a
  case y45a =>
    intro w' hSw
    go_simp
    try rfl
  try simp only [Act.put, List.setIfInBounds_toArray, List.set_cons_zero, List.set_cons_succ]
  refine' wpAnyH_take (i := 46) (oi := ⟨some 102, _, _, _, _, _⟩) (v := _) rfl (by kernel_rfl) (by kernel_rfl) (by kernel_rfl) (fun _ _ _ h => h) (Or.inl ⟨by rfl, ?y46a⟩) hS38 ?r46a
  case y46a =>
    intro w' hSw
    have hM := hm.below hSw
    have hb_three := (hM.box _ (show (z3, 41, #[.int .i64 3, .int .u64 4]) ∈ _ by simp)).1
    have c_three0 : w'.cell? ⟨z3, 0, none⟩ = some (.int .i64 3) := (by rw [hb_three.cell]; rfl)
    have c_three1 : w'.cell? ⟨z3, 1, none⟩ = some (.int .u64 4) := (by rw [hb_three.cell]; rfl)
    go_simp
    try rfl
  try simp only [Act.put, List.setIfInBounds_toArray, List.set_cons_zero, List.set_cons_succ]
  refine held_one (i := 47) (by kernel_rfl) rfl (fun Kc hK => ?_)
  go_simp
  refine (HGONE3.out _ ((hm.below hS38).set (p, kn3, F4) (by simp)).1).mono ?_
  rintro e Z47 ⟨rfl, hz47⟩
  have hS47 := hS38.trans (hz47.mono hS38.size)
  refine hK.out _ _ hS47 (fun _ => ?_)
  clear hK Kc
  try simp only [Act.put, List.setIfInBounds_toArray, List.set_cons_zero, List.set_cons_succ]
  refine' wpAnyH_take (i := 48) (oi := ⟨some 104, _, _, _, _, _⟩) (v := .bool true) rfl (by kernel_rfl) (by kernel_rfl) (by kernel_rfl) (fun _ _ _ h => h) (Or.inl ⟨by rfl, ?y48a⟩) hS47 ?r48a
  case y48a =>
    intro w' hSw
    go_simp
    try rfl
  try simp only [Act.put, List.setIfInBounds_toArray, List.set_cons_zero, List.set_cons_succ]
  refine' wpAnyH_take (i := 49) (oi := ⟨some 0, _, _, _, _, _⟩) (v := .bool true) rfl (by kernel_rfl) (by kernel_rfl) (by kernel_rfl) (fun _ _ _ h => h) (Or.inl ⟨by rfl, ?y49a⟩) hS47 ?r49a
  case y49a =>
    intro w' hSw
    go_simp
    try rfl
  try simp only [Act.put, List.setIfInBounds_toArray, List.set_cons_zero, List.set_cons_succ]
  refine wpAnyH_done (by kernel_rfl) ?_ _
  have hfin := hm.bel.trans (hS47.mono hm.bel.size)
  go_wp2
  go_ret
  exact ⟨rfl, hfin⟩
end Go.Proofs.YtldfaaahmpncbaaGreat

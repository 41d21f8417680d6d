/-
  maps.DeleteFunc of the lines; Clear; Copy of none.
-/
import Derived.Test.YtellbmghahgjfaaNetN
import Derived.Deep.LoopGhost
import Derived.Lib.SlMapFilter
namespace Go.Proofs.Ytellbmghahgjfaa
open Go.RowKit Go.Maps Go.WideShapes Go.WideMaps
open NetM
open Maps
set_option linter.unusedVariables false
set_option linter.unusedSimpArgs false
set_option maxRecDepth 20000

section
variable {w w' : World} {p b : Nat} {E lost : Int} {m : Option Nat} {K : Kl} {V : List (Fl Pl)} {G : Nat → Prop}
theorem clear1_any (q : Pr) (v : Value) (z : Nat) (e : Int) (w : World) (hz : w.cell? ⟨z, 0, none⟩ = some (.int .i64 e)) : Calls Try.prog 45 #[.agg #[.int .i64 q.1, .int .i64 q.2], v, .pointer (some ⟨z, 0, none⟩)] w fun r w' => r = .returned (.bool (q.2 == e)) ∧ w.grownBy w' none := by
  have hlt := World.block_lt_of_cell? w _ hz
  have hB := Blk.new w 61 #[.int .i64 q.1, .int .i64 q.2]
  have q1 : (w.alloc (.cells #[.int .i64 q.1, .int .i64 q.2] 61)).cell? ⟨w.heap.size, 1, none⟩ = some (.int .i64 q.2) := by rw [hB.cell]; rfl
  have hz2 : (w.alloc (.cells #[.int .i64 q.1, .int .i64 q.2] 61)).cell? ⟨z, 0, none⟩ = some (.int .i64 e) := (World.cell?_alloc_lt w _ _ hlt).trans hz
  have hg : w.grownBy (w.alloc (.cells #[.int .i64 q.1, .int .i64 q.2] 61)) none := World.grownBy_alloc w _ none
  go_enter Try.func45, Try.ntmps45
  go_upto_region 1 with fail
  generalize w.alloc (.cells #[.int .i64 q.1, .int .i64 q.2] 61) = w1 at hB q1 hz2 hg ⊢
  go_wp2
  go_ret
  exact ⟨rfl, hg⟩
/-- The entries that stay. -/
def stayK (K : Kl) (e : Int) (ss : List Pr) : Kl := K.filter fun x => !decide (x.1 ∈ ss ∧ x.1.2 = e)
theorem stayK_ok (h : OkL K) (e : Int) (ss : List Pr) : OkL (stayK K e ss) := ⟨h.1.filter _, fun x hx => h.2 x (List.mem_filter.1 hx).1⟩
theorem stayK_nil (K : Kl) (e : Int) : stayK K e [] = K := by unfold stayK; exact List.filter_eq_self.2 fun x _ => by simp
theorem stayK_no (K : Kl) (e : Int) (ss : List Pr) (q : Pr) (h : ¬ q.2 = e) : stayK K e (ss ++ [q]) = stayK K e ss := by
  unfold stayK
  refine List.filter_congr fun x _ => ?_
  congr 1
  rw [decide_eq_decide]
  constructor
  · rintro ⟨h1, h2⟩
    rcases List.mem_append.1 h1 with h1 | h1
    · exact ⟨h1, h2⟩
    · rw [List.mem_singleton.1 h1] at h2; exact absurd h2 h
  · rintro ⟨h1, h2⟩; exact ⟨List.mem_append.2 (.inl h1), h2⟩
theorem stayK_del (K : Kl) (e : Int) (ss : List Pr) (q : Pr) (h : q.2 = e) : butD q (stayK K e ss) = stayK K e (ss ++ [q]) := by
  unfold stayK butD
  rw [List.filter_filter]
  refine List.filter_congr fun x _ => ?_
  by_cases hx : x.1 = q
  · simp [hx, h]
  · simp [hx]
theorem key_of_has' {L : Kl} (h : OkL L) {key : Value} {kl : Lit} (hk : keyOf Try.prog 61 key = some kl) (hh : Maps.has (MD svD L) kl = true) : ∃ p ∈ L, kl = litP p.1 ∧ key = pval p.1 := key_of_has h hk hh
set_option maxHeartbeats 8000000 in
theorem deleteL_any (hok : OkL K) (z : Nat) (e : Int) (w : World) (hz : w.cell? ⟨z, 0, none⟩ = some (.int .i64 e)) (hzb : z ≠ b) (hown : w.ownsMap Try.prog 61 heldR b K.length (MD svD K)) :
    Calls Try.prog 44 #[.map (some b), .func (.func 45) #[] #[.pointer (some ⟨z, 0, none⟩)]] w fun r w' => r = .returned (.tuple #[]) ∧ w'.ownsMap Try.prog 61 heldR b (stayK K e (K.map Prod.fst)).length (MD svD (stayK K e (K.map Prod.fst))) ∧ w.grownBy w' (some b) := by
  have hbl := hown.lt
  have hzl := World.block_lt_of_cell? w _ hz
  have HZ := Lib.hid (show ∀ X, w.grownBy X (some b) → X.cell? ⟨z, 0, none⟩ = some (.int .i64 e) from fun X hX => (World.cell?_of_block (hX.block z hzl (by simpa using hzb))).trans hz)
  go_enter Try.func44, Try.ntmps44
  go_wp2_with (first
    | (at_range; refine wpList_range_own _ rfl _ 53 rfl 61 62 prK Try.underlying53 heldR b K.length _ rfl hown ?_; intro w0 hrg0 hg0 hs0)
    | go_in)
  try go_frame
  go_loopw [] (fun wr => ∃ (left : Lit → Bool) (cnt : Nat) (ss : List Pr), wr.ranges Try.prog 61 heldR b w.heap.size K.length (MD svD (stayK K e ss)) left cnt ∧ Come K left ss ∧ w.grownBy wr (some b))
    (fun wr => wr.rangeLeft b w.heap.size)
  case atStart => exact ⟨_, _, [], by rw [stayK_nil]; exact hrg0, Come.start hok, hg0.but _⟩
  case round =>
    obtain ⟨left, cnt, ss, hrg, hC, hgw⟩ := hrel
    go_wp2_with (first
      | (at_next; refine wpList_next_ranges _ rfl _ rfl 61 prK heldR id id (fun key _ _ => ⟨key, rfl⟩) (fun v _ _ => ⟨v, rfl⟩) b w.heap.size K.length _ _ _ rfl hrg ?_ ?_)
      | go_in)
    · intro _ hl0
      have hS : stayK K e ss = stayK K e (K.map Prod.fst) := by
        unfold stayK
        refine List.filter_congr fun x hx => ?_
        have h1 : x.1 ∈ ss := (hC.2 x.1).2 ⟨List.mem_map.2 ⟨x, hx, rfl⟩, hl0 _⟩
        have h2 : x.1 ∈ K.map Prod.fst := List.mem_map.2 ⟨x, hx, rfl⟩
        simp [h1, h2]
      have ho := ownsMap_exact_ hrg.owns
      rw [size_MD, hS] at ho
      have HO := Lib.hid ho
      clear ho hS
      go_wp2
      go_end0
      exact ⟨rfl, HO.out, hgw⟩
    · intro x c kl yd yp w1 cnt1 hkey hlx hv hat hrg1 hlt hg1 hs1 hen
      obtain ⟨⟨q, s⟩, hp, rfl, rfl⟩ := key_of_has (stayK_ok hok e ss) hkey (has_true_of_atKey hat)
      have hpK := (List.mem_filter.1 hp).1
      have hgw1 := hgw.andThen hg1 (fun j hj => by cases hj; exact Or.inl (Nat.le_refl _))
      have hC2 := hC.step hok hpK hlx
      have hgA : w.grownBy (w1.alloc (.cells #[.int .i64 q.1, .int .i64 q.2] 61)) (some b) := hgw1.andThen (World.grownBy_alloc w1 _ none) (fun j hj => by cases hj)
      have hrgA := hrg1.kept (World.grownBy_alloc w1 (.cells #[.int .i64 q.1, .int .i64 q.2] 61) none) (by simp) (by simp)
      have hB := Blk.new w1 61 #[.int .i64 q.1, .int .i64 q.2]
      have hen' : (Instr.entry (.pointer (some ⟨w.heap.size, 0, none⟩))).run Try.prog w1 = .ok (.tuple #[.agg #[.int .i64 q.1, .int .i64 q.2], c]) w1 := hen
      clear hen hat hv
      go_upto_region 3 with fail
      generalize w1.alloc (.cells #[.int .i64 q.1, .int .i64 q.2] 61) = wA at hgA hrgA hB ⊢
      have hc := clear1_any q c z e wA (HZ.out wA hgA)
      rw [hs1] at hB
      have k0 : wA.cell? ⟨wr.heap.size, 0, none⟩ = some (.int .i64 q.1) := by rw [hB.cell]; rfl
      have k1 : wA.cell? ⟨wr.heap.size, 1, none⟩ = some (.int .i64 q.2) := by rw [hB.cell]; rfl
      have hkey' : keyOf Try.prog 61 (.agg #[.int .i64 q.1, .int .i64 q.2]) = some (litP q) := hkey
      have HH := Lib.hid (And.intro hC2 (And.intro hp hpK))
      clear hC2 hp hpK hkey hC
      by_cases he : q.2 = e
      · rw [show (q.2 == e) = true by simpa using he] at hc
        have HE := Lib.hid he
        clear he
        go_wp2_with (first | (go_at_call 45; refine hc.mono ?_; rintro r w2 ⟨rfl, hg2⟩; have hrg2 := hrgA.kept hg2 (by simp) (by simp); have hB2 := hB.grown hg2 (by simp); have m0 : w2.cell? ⟨wr.heap.size, 0, none⟩ = some (.int .i64 q.1) := (by rw [hB2.cell]; rfl); have m1 : w2.cell? ⟨wr.heap.size, 1, none⟩ = some (.int .i64 q.2) := (by rw [hB2.cell]; rfl)) | (at_delete; refine wpList_delete_ranges _ rfl _ _ 53 61 rfl 62 prK Try.underlying53 heldR b w.heap.size K.length _ _ _ rfl hrg2 _ _ rfl hkey' ?_; intro w3 cnt3 hrg3 hle hturn; go_frame))
        rw [strike_twice] at hrg3
        obtain ⟨hC2, hp, hpK⟩ := HH.out
        rw [del_MD (stayK_ok hok e ss) (hok.2 _ hpK), stayK_del K e ss q HE.out] at hrg3
        go_roundw
        case rel => exact ⟨_, cnt3, ss ++ [q], hrg3, hC2, (hgA.andThen hg2 (fun j hj => by cases hj)).andThen hturn.grown (fun j hj => by cases hj; exact Or.inr rfl)⟩
        case measure => rw [hrg3.left_eq, hrg.left_eq]; omega
      · rw [show (q.2 == e) = false by simpa using he] at hc
        have HE := Lib.hid he
        clear he
        go_wp2_with (first | (go_at_call 45; refine hc.mono ?_; rintro r w2 ⟨rfl, hg2⟩))
        have hrg2 := hrgA.kept hg2 (by simp) (by simp)
        obtain ⟨hC2, hp, hpK⟩ := HH.out
        rw [← stayK_no K e ss q HE.out] at hrg2
        go_roundw
        case rel => exact ⟨_, cnt1, ss ++ [q], hrg2, hC2, hgA.andThen hg2 (fun j hj => by cases hj)⟩
        case measure => rw [hrg2.left_eq, hrg.left_eq]; exact hlt
theorem deleteL_nil (v : Value) (w : World) : Calls Try.prog 44 #[.map none, v] w fun r w' => r = .returned (.tuple #[]) ∧ Below w.heap.size w w' := by
  have hrg := run_range_nilMap (P := Try.prog) w 53 _ _ Try.underlying53
  have hnx : ∀ ty, (Instr.next (.pointer (some ⟨w.heap.size, 0, none⟩)) false ty).run Try.prog (w.alloc (.mapIter none 0 #[] 0)) = _ := fun ty => run_next_nilMap _ ty 0 0 #[]
  go_enter Try.func44, Try.ntmps44
  go_wp2
  refine wp_loop_rounds 1 ?_
  rw [rounds_succ]
  go_wp2
  go_end0
  exact ⟨rfl, (Below.refl _ _).alloc (Nat.le_refl _) _⟩
theorem len_no {v : Value} (h : NoN w v) : Calls Try.prog 20 #[v] w fun e w' => e = .returned (.int .i64 0) ∧ Below w.heap.size w w' := by
  have hk := look_no h
  have hsf : ∀ a b c W, (Instr.field 55 (.agg #[a, b, c]) 1).run Try.prog W = .ok b W := fun a b c W => net_f1 a b c W
  have hrg := fun w => run_range_nilMap (P := Try.prog) w 53 _ _ Try.underlying53
  have hnx : ∀ (w : World) ty, (Instr.next (.pointer (some ⟨w.heap.size, 0, none⟩)) false ty).run Try.prog (w.alloc (.mapIter none 0 #[] 0)) = _ := fun w ty => run_next_nilMap _ ty 0 0 #[]
  go_enter Try.func20, Try.ntmps20
  go_wp2_with (go_at_call 43; refine hk.mono ?_; rintro e w2 ⟨rfl, hb2⟩)
  refine wp_loop_rounds 1 ?_
  rw [rounds_succ]
  go_wp2
  go_ret
  exact ⟨rfl, hb2.alloc hb2.size _⟩
theorem copy_no {v : Value} (h : NoN w v) : Calls Try.prog 13 #[v] w fun e w' => e = .returned (.pointer none) ∧ w' = w := by
  have hq := none_no h
  go_enter Try.func13, Try.ntmps13
  go_wp2_with (go_at_call 29; refine hq.mono ?_; rintro e w2 ⟨rfl, hwd⟩; obtain rfl := hwd.symm)
  go_ret
  exact ⟨rfl, rfl⟩
end
end Go.Proofs.Ytellbmghahgjfaa

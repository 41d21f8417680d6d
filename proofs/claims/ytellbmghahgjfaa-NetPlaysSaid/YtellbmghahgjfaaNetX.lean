/-
  The calls that the laws over what was sent make, over all their memory.
-/
import Derived.Test.YtellbmghahgjfaaNetW
import Derived.Test.YtellbmghahgjfaaNetN
import Derived.Test.YtellbmghahgjfaaNetU
namespace Go.Proofs.Ytellbmghahgjfaa
open Go.RowKit Go.Maps
open NetM
set_option linter.unusedVariables false
set_option linter.unusedSimpArgs false
set_option maxRecDepth 20000
theorem flI : ∃ i, Try.prog.info? 44 = some i ∧ i.zero = some kFl.zero ∧ i.size = kFl.sz ∧ i.bytes = kFl.by_ := by
  have h := info_fl
  cases e : Try.prog.info? 44 with
  | none => rw [e] at h; cases h
  | some i =>
    rw [e] at h
    simp only [Option.map_some, Option.some.injEq, Prod.mk.injEq] at h
    exact ⟨i, rfl, h.1, h.2.1, h.2.2⟩
section
variable {w W W' : World} {p b : Nat} {lost : Int} {V : List (Fl Pl)} {s : Sv} {S : List (Fl Pl)}
/-- What a sending leaves. -/
def SendM (w : World) (p b : Nat) (lost : Int) (V : List (Fl Pl)) (s : Sv) (S : List (Fl Pl)) (q : Pr) (l : List UInt8) (e : Ending) (W' : World) : Prop :=
  ∃ r, e = .returned (.int .i64 r) ∧ ∃ lost' V', lost' ≤ lost + 1 ∧ Mm w W' p b lost' V' s S ∧ (((r == 0) = false ∧ V' = V) ∨ ((r == 0) = true ∧ ∃ x, V' = lay V ⟨q, (x, l)⟩))
theorem mm_send (h : Mm w W p b lost V s S) (q : Pr) (A : Option Addr) (n c : Nat) (l : List UInt8) (hs : Sl w (.slice A n c) l) (hlo : lost ≤ 1000000) (X : World) (hX : Below W.heap.size W X) :
    Calls Try.prog 17 #[.pointer (some ⟨p, 0, none⟩), .int .i64 q.1, .int .i64 q.2, .slice A n c] X (SendM w p b lost V s S q l) := by
  have h' := h.more hX
  obtain ⟨K, G, hn, hG⟩ := h'.net
  have hsX := hs.below h'.below
  by_cases hm : MaySend 4 q l
  · refine (send_any hn q _ l hsX hm (by omega)).mono fun e w' he => ?_
    rcases he with ⟨_, rfl, ht⟩ | ⟨_, rfl, x, ht⟩
    · exact ⟨5, rfl, lost + 1, V, by omega, h'.turn hG ht, .inl ⟨by decide, rfl⟩⟩
    · exact ⟨0, rfl, lost, _, by omega, h'.turn hG ht, .inr ⟨by decide, x, rfl⟩⟩
  · refine (send_bad hn q _ l hsX hm).mono fun e w' ⟨he, hb⟩ => ?_
    exact ⟨2, he, lost, V, by omega, h'.more hb, .inl ⟨by decide, rfl⟩⟩
def TakeM (w : World) (p b : Nat) (lost : Int) (V' : List (Fl Pl)) (s : Sv) (S : List (Fl Pl)) (q : Pr) (l : List UInt8) (e : Ending) (W' : World) : Prop :=
  ∃ A n c, e = .returned (.tuple #[.agg #[.int .i64 q.1, .int .i64 q.2, .slice A n c], .int .i64 0]) ∧ Sl W' (.slice A n c) l ∧ Mm w W' p b lost V' s S
theorem mm_take (h : Mm w W p b lost V s S) (i : Nat) (hi : i < V.length) (X : World) (hX : Below W.heap.size W X) :
    Calls Try.prog 19 #[.pointer (some ⟨p, 0, none⟩), .int .i64 (i : Int)] X (TakeM w p b lost (V.eraseIdx i) s S V[i].p V[i].x.2) := by
  have h' := h.more hX
  obtain ⟨K, G, hn, hG⟩ := h'.net
  refine (take_any hn i hi).mono fun e w' he => ?_
  obtain ⟨⟨A, n, c⟩, rfl, ho, ht⟩ := he
  exact ⟨A, n, c, rfl, ho.sl, h'.turn hG ht⟩
theorem mm_take_none (h : Mm w W p b lost V s S) (i : Nat) (hi : V.length ≤ i) (hi2 : (i : Int) ≤ 9223372036854775807) (X : World) (hX : Below W.heap.size W X) :
    Calls Try.prog 19 #[.pointer (some ⟨p, 0, none⟩), .int .i64 (i : Int)] X fun e W' => e = .returned (.tuple #[.agg #[.int .i64 0, .int .i64 0, .slice none 0 0], .int .i64 6]) ∧ Below X.heap.size X W' := by
  have h' := h.more hX
  obtain ⟨K, G, hn, hG⟩ := h'.net
  exact take_bad (find_out hn i hi hi2) (by decide)
theorem mm_len (h : Mm w W p b lost V s S) (X : World) (hX : Below W.heap.size W X) : Calls Try.prog 20 #[.pointer (some ⟨p, 0, none⟩)] X fun e W' => e = .returned (.int .i64 (V.length : Int)) ∧ Below X.heap.size X W' := by
  have h' := h.more hX
  obtain ⟨K, G, hn, hG⟩ := h'.net
  exact len_any hn
theorem mm_new {w X : World} {p b : Nat} (hN : Nt X p b 4 0 [] [] (fun _ => False)) (hb : Below w.heap.size w X) (hp : w.heap.size ≤ p) (hbb : w.heap.size ≤ b) : Mm w X p b 0 [] nilS [] :=
  ⟨hb, ⟨_, _, hN, fun i h => h.elim⟩, OwnK.nil, by simp, hp, hbb⟩
theorem mm_sorted (h : Mm w W p b lost V s S) : Sorted V := by
  obtain ⟨K, G, hn, hG⟩ := h.net
  exact hn.sorted
end

section
variable {α : Type} {k : Kd α}
theorem SlK.pre {w : World} {A : Option Addr} {n c : Nat} {L : List α} (h : SlK k w (.slice A n c) L) (i : Nat) (hi : i ≤ n) : SlK k w (.slice A i c) (L.take i) := by
  obtain ⟨A', c', e, hc, ha⟩ := h
  injection e with e1 e2 e3
  subst e1 e3
  have hl : (L.take i).length = i := by rw [List.length_take]; omega
  refine ⟨_, _, by rw [hl], by rw [hl]; omega, fun h0 => ?_⟩
  rw [hl] at h0
  obtain ⟨b, o, rfl, hx⟩ := ha (by omega)
  refine ⟨b, o, rfl, fun j u hu => hx j u ?_⟩
  have hs : L = L.take i ++ L.drop i := (List.take_append_drop i L).symm
  have hcc : cellsK k L = cellsK k (L.take i) ++ cellsK k (L.drop i) := by conv => lhs; rw [hs, cellsK_append]
  rw [hcc, List.getElem?_append_left (List.getElem?_eq_some_iff.1 hu).1]
  exact hu
theorem SlK.suf {w : World} {b o n c : Nat} {L : List α} (h : SlK k w (.slice (some ⟨b, o, none⟩) n c) L) (i : Nat) (hi : i ≤ n) (X : Option Addr) (hX : i < n → X = some ⟨b, o + i * k.sz, none⟩) : SlK k w (.slice X (n - i) (c - i)) (L.drop i) := by
  obtain ⟨A', c', e, hc, ha⟩ := h
  injection e with e1 e2 e3
  subst e1 e3
  have hl : (L.drop i).length = n - i := by rw [List.length_drop]; omega
  refine ⟨_, _, by rw [hl], by rw [hl]; omega, fun h0 => ?_⟩
  rw [hl] at h0
  obtain ⟨b', o', e, hx⟩ := ha (by omega)
  injection e with e
  injection e with e1 e2
  subst e1 e2
  refine ⟨_, _, hX (by omega), fun j u hu => ?_⟩
  have hs : L = L.take i ++ L.drop i := (List.take_append_drop i L).symm
  have hcc : cellsK k L = cellsK k (L.take i) ++ cellsK k (L.drop i) := by conv => lhs; rw [hs, cellsK_append]
  have hlen : (cellsK k (L.take i)).length = i * k.sz := by rw [cellsK_length, List.length_take, Nat.min_eq_left (by omega)]
  rw [Nat.add_assoc]
  refine hx (i * k.sz + j) u ?_
  rw [hcc, List.getElem?_append_right (by omega), hlen, Nat.add_sub_cancel_left]
  exact hu
end
/-- The row's cells. -/
theorem mm_cells {w W : World} {p b : Nat} {lost : Int} {V S : List (Fl Pl)} {bs os n6 c6 : Nat} (h : Mm w W p b lost V (some ⟨bs, os, none⟩, n6, c6) S) (X : World) (hX : Below W.heap.size W X) (j : Nat) (hj : j < S.length) :
    X.cell? ⟨bs, os + j * 3, none⟩ = some (.int .i64 S[j].p.1) ∧ X.cell? ⟨bs, os + j * 3 + 1, none⟩ = some (.int .i64 S[j].p.2) ∧ X.cell? ⟨bs, os + j * 3 + 2, none⟩ = some (sv S[j].x.1) := by
  have hs := h.own.slk.below hX
  obtain ⟨b', o', e, hc⟩ := hs.at_ j (by simpa using hj)
  injection e with e
  injection e with e1 e2
  subst e1 e2
  have e0 := hc 0 (by decide)
  have e1 := hc 1 (by decide)
  have e2 := hc 2 (by decide)
  simp only [List.getElem_map] at e0 e1 e2
  exact ⟨e0, by rw [Nat.add_assoc]; exact e1, by rw [Nat.add_assoc]; exact e2⟩
theorem mm_some {w W : World} {p b : Nat} {lost : Int} {V S : List (Fl Pl)} {A : Option Addr} {n6 c6 : Nat} (h : Mm w W p b lost V (A, n6, c6) S) (h0 : 0 < S.length) : (∃ bs os, A = some ⟨bs, os, none⟩) ∧ n6 = S.length ∧ S.length ≤ c6 := by
  obtain ⟨b', o', e, _⟩ := h.own.slk.at_ 0 (by simpa using h0)
  obtain ⟨A', c', e2, hc, _⟩ := h.own.slk
  injection e2 with e1 e2 e3
  rw [List.length_map] at e2 hc
  exact ⟨⟨b', o', e⟩, e2, by have e4 : c6 = c' := e3; omega⟩
theorem mm_row {w W : World} {p b : Nat} {lost : Int} {V S : List (Fl Pl)} {s : Sv} (h : Mm w W p b lost V s S) : ∃ A c, s = (A, S.length, c) := by
  obtain ⟨A, c, e⟩ := h.own.shape
  obtain ⟨s0, s1, s2⟩ := s
  unfold sv at e
  injection e with e1 e2 e3
  rw [List.length_map] at e2
  exact ⟨s0, s2, by rw [← e2]⟩
end Go.Proofs.Ytellbmghahgjfaa

/-
  WalNil's rows, plainly: of any bytes that are as long as may be.
-/
import Derived.Test.YtibifnknkphanaaGreatDoorWKnA
namespace Go.Proofs.YtibifnknkphanaaGreatDoor
open Go.RowKit Go.Maps
open DskM WalM
set_option linter.unusedVariables false
set_option linter.unusedSimpArgs false
set_option maxRecDepth 20000

def nS0 : Ds := ⟨4194304, -1, false, 0⟩
def nR0 : List UInt8 := [0, 0, 0, 0, 72, 103, 75, 199]
def nN1 : Nm := [97, 46, 49]
def nN2 : Nm := [97, 46, 50]
def nL1 : Lg := { num := 1, snap := [], recs := [], size := 8, synced := 0, dead := false }
def nO1 : Out := (0, ⟨4194304, -1, false, 2⟩, [(nN1, nR0, 8)], nL1)
theorem n1_is : openL nmA nS0 [] = nO1 := by kernel_rfl
def nL2 (rec : List UInt8) : Lg := { nL1 with recs := [rec.drop 8], size := 1048592 }
def nO2 (rec : List UInt8) : Out := (0, ⟨4194304, -1, false, 3⟩, [(nN1, nR0 ++ rec, 8)], nL2 rec)
def nL5 (rec : List UInt8) : Lg := { num := 2, snap := rec.drop 8, recs := [], size := 1048584, synced := 0, dead := false }
def nO5 (rec : List UInt8) : Out := (0, ⟨4194304, -1, false, 6⟩, [(nN2, rec, rec.length)], nL5 rec)
def nO6 (rec : List UInt8) : Out := (0, ⟨4194304, 0, false, 6⟩, [(nN2, rec, rec.length)], nL5 rec)
def nO7 (rec : List UInt8) (c : Int) : Out := (c, ⟨4194304, 0, true, 7⟩, [(nN2, rec, rec.length)], { nL5 rec with dead := true })
theorem seg1_is : seg nmA.data.toList 1 = nN1 := by kernel_rfl
theorem seg2_is : seg nmA.data.toList 2 = nN2 := by kernel_rfl
theorem segS2_is : (segS nmA 2).data.toList = nN2 := by kernel_rfl
theorem may1 : mayB nN1 = true := by kernel_rfl
theorem may2 : mayB nN2 = true := by kernel_rfl
theorem long_a {S : Ds} {F : List Fp} {L : Lg} {b : List UInt8} (h : 1048576 < b.length) : appendL nmA S F L b = (3, S, F, L) := by unfold appendL; rw [if_pos h]
theorem long_t {S : Ds} {F : List Fp} {L : Lg} {b : List UInt8} (h : 1048576 < b.length) : turnL nmA S F L b = (3, S, F, L) := by unfold turnL; rw [if_pos h]
theorem wrP_of (f : Ds → List Fp → Int × Ds × List Fp) {S : Ds} {F : List Fp} {L : Lg} {r : Int × Ds × List Fp} (h : f S F = r) : wrP f S F L = (r.1, r.2.1, r.2.2, L) := by unfold wrP; rw [h]
theorem n2_rec (rec : List UInt8) (h : rec.length = 1048584) : runP [appendNowP nmA rec, putP rec] nO1.2.1 nO1.2.2.1 nO1.2.2.2 = nO2 rec := by
  have h1 : appendS nO1.2.1 nO1.2.2.1 (seg nmA.data.toList nO1.2.2.2.num) rec = (0, ⟨4194304, -1, false, 3⟩, [(nN1, nR0 ++ rec, 8)]) := by
    show appendS nO1.2.1 nO1.2.2.1 (seg nmA.data.toList 1) rec = _
    rw [seg1_is]
    unfold appendS
    rw [if_pos may1, if_neg (by
      rintro (e | e)
      · have e : 4194304 < totalP [(nN1, nR0, 8)] + rec.length := e
        rw [show totalP [(nN1, nR0, 8)] = 8 by kernel_rfl, h] at e
        omega
      · exact absurd e.2 (by decide))]
    have h2 : addP nO1.2.2.1 nN1 rec = [(nN1, nR0 ++ rec, 8)] := by kernel_rfl
    rw [h2]
    rfl
  have h3 : appendNowP nmA rec nO1.2.1 nO1.2.2.1 nO1.2.2.2 = (0, ⟨4194304, -1, false, 3⟩, [(nN1, nR0 ++ rec, 8)], nL1) := by
    exact wrP_of (fun S F => appendS S F (seg nmA.data.toList nO1.2.2.2.num) rec) h1
  unfold runP
  rw [h3]
  show runP [putP rec] _ _ _ = _
  unfold runP putP
  show runP [] _ _ _ = _
  unfold runP
  have h4 : wrap64 ((8 : Int) + (rec.length : Int)) = 1048592 := by rw [h]; kernel_rfl
  show ((0 : Int), _, _, ({ nL1 with recs := nL1.recs ++ [rec.drop 8], size := wrap64 (nL1.size + (rec.length : Int)) } : Lg)) = _
  rw [show nL1.size = 8 from rfl, h4]
  rfl
theorem n2_is (b : List UInt8) (h : b.length = 1048576) : appendL nmA nO1.2.1 nO1.2.2.1 nO1.2.2.2 b = nO2 (recP b) := by
  unfold appendL
  rw [if_neg (by omega), if_neg (by decide)]
  exact n2_rec _ (by rw [recP_length, h])
theorem n5_rec (old rec : List UInt8) (h : rec.length = 1048584) (h0 : old.length = 1048584) : runP (begStepsP nmA 2 rec ++ [removeP (seg nmA.data.toList 1)]) (nO2 old).2.1 (nO2 old).2.2.1 (nO2 old).2.2.2 = nO5 rec := by
  have t1 : removeP (seg nmA.data.toList 2) (nO2 old).2.1 (nO2 old).2.2.1 (nO2 old).2.2.2 = (0, (nO2 old).2) := by
    rw [seg2_is]
    unfold removeP removeS
    rw [if_pos may2]
    kernel_rfl
  have h1 : appendS (nO2 old).2.1 (nO2 old).2.2.1 nN2 rec = (0, ⟨4194304, -1, false, 4⟩, [(nN1, nR0 ++ old, 8), (nN2, rec, 0)]) := by
    unfold appendS
    rw [if_pos may2, if_neg (by
      rintro (e | e)
      · have e : 4194304 < totalP [(nN1, nR0 ++ old, 8)] + rec.length := e
        have e2 : totalP [(nN1, nR0 ++ old, 8)] = 8 + old.length := by
          show ((nR0 ++ old).length + 0) = _
          rw [List.length_append]; rfl
        rw [e2, h, h0] at e
        omega
      · exact absurd e.2 (by show ¬ (1 = 64); decide))]
    have h2 : addP (nO2 old).2.2.1 nN2 rec = [(nN1, nR0 ++ old, 8), (nN2, rec, 0)] := by kernel_rfl
    rw [h2]
    rfl
  have h2 : syncS ⟨4194304, -1, false, 4⟩ [(nN1, nR0 ++ old, 8), (nN2, rec, 0)] nN2 = (0, ⟨4194304, -1, false, 5⟩, [(nN1, nR0 ++ old, 8), (nN2, rec, rec.length)]) := by
    unfold syncS
    rw [if_pos may2]
    kernel_rfl
  have h3 : removeS ⟨4194304, -1, false, 5⟩ [(nN1, nR0 ++ old, 8), (nN2, rec, rec.length)] nN1 = (0, ⟨4194304, -1, false, 6⟩, [(nN2, rec, rec.length)]) := by
    unfold removeS
    rw [if_pos may1]
    kernel_rfl
  have hz : (((rec.drop 8).length : Nat) : Int) + 8 = 1048584 := by rw [List.length_drop, h]; rfl
  have t2 : (wrP fun S F => appendS S F (segS nmA 2).data.toList rec) (nO2 old).2.1 (nO2 old).2.2.1 (nO2 old).2.2.2 = (0, ⟨4194304, -1, false, 4⟩, [(nN1, nR0 ++ old, 8), (nN2, rec, 0)], nL2 old) := by
    rw [segS2_is]
    exact wrP_of (fun S F => appendS S F nN2 rec) h1
  have t3 : (wrP fun S F => syncS S F (segS nmA 2).data.toList) ⟨4194304, -1, false, 4⟩ [(nN1, nR0 ++ old, 8), (nN2, rec, 0)] (nL2 old) = (0, ⟨4194304, -1, false, 5⟩, [(nN1, nR0 ++ old, 8), (nN2, rec, rec.length)], nL2 old) := by
    rw [segS2_is]
    exact wrP_of (fun S F => syncS S F nN2) h2
  have t4 : beginP 2 (rec.drop 8) ⟨4194304, -1, false, 5⟩ [(nN1, nR0 ++ old, 8), (nN2, rec, rec.length)] (nL2 old) = (0, ⟨4194304, -1, false, 5⟩, [(nN1, nR0 ++ old, 8), (nN2, rec, rec.length)], nL5 rec) := by
    unfold beginP
    rw [hz]
    rfl
  have t5 : removeP (seg nmA.data.toList 1) ⟨4194304, -1, false, 5⟩ [(nN1, nR0 ++ old, 8), (nN2, rec, rec.length)] (nL5 rec) = nO5 rec := by
    rw [seg1_is]
    unfold removeP
    rw [h3]
    rfl
  show runP [_, _, _, _, _] _ _ _ = _
  rw [runP, t1, if_pos rfl, runP, t2, if_pos rfl, runP, t3, if_pos rfl, runP, t4, if_pos rfl, runP, t5]
  rfl
theorem n5_is (old b : List UInt8) (h : b.length = 1048576) (h0 : old.length = 1048584) : turnL nmA (nO2 old).2.1 (nO2 old).2.2.1 (nO2 old).2.2.2 b = nO5 (recP b) := by
  unfold turnL
  rw [if_neg (by omega), if_neg (by show ¬ (false = true); decide), if_neg (by show ¬ (1 = 2147483647); decide)]
  exact n5_rec old _ (by rw [recP_length, h]) h0
theorem n6_is (rec : List UInt8) : (0, fuseS (nO5 rec).2.1 0, (nO5 rec).2.2.1, (nO5 rec).2.2.2) = nO6 rec := rfl
theorem n7_is (rec : List UInt8) : syncL nmA (nO6 rec).2.1 (nO6 rec).2.2.1 (nO6 rec).2.2.2 = nO7 rec 8 := by
  have h1 : syncS (nO6 rec).2.1 (nO6 rec).2.2.1 (seg nmA.data.toList 2) = (8, ⟨4194304, 0, true, 7⟩, [(nN2, rec, rec.length)]) := by
    rw [seg2_is]
    unfold syncS
    rw [if_pos may2]
    kernel_rfl
  have h3 : syncNowP nmA (nO6 rec).2.1 (nO6 rec).2.2.1 (nO6 rec).2.2.2 = (8, ⟨4194304, 0, true, 7⟩, [(nN2, rec, rec.length)], nL5 rec) := by
    exact wrP_of (fun S F => syncS S F (seg nmA.data.toList 2)) h1
  unfold syncL
  rw [if_neg (by show ¬ (false = true); decide), runP, h3, if_neg (by show ¬ ((8 : Int) = 0); decide)]
  rfl
theorem n8_is (rec : List UInt8) (c : Int) : syncL nmA (nO7 rec c).2.1 (nO7 rec c).2.2.1 (nO7 rec c).2.2.2 = nO7 rec 7 := rfl
theorem n9_is (rec : List UInt8) (c : Int) : appendL nmA (nO7 rec c).2.1 (nO7 rec c).2.2.1 (nO7 rec c).2.2.2 [] = nO7 rec 7 := rfl
theorem n10_is (rec : List UInt8) (c : Int) : turnL nmA (nO7 rec c).2.1 (nO7 rec c).2.2.1 (nO7 rec c).2.2.2 [] = nO7 rec 7 := rfl
end Go.Proofs.YtibifnknkphanaaGreatDoor

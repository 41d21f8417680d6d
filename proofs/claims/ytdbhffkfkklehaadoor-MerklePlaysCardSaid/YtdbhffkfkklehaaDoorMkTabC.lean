/-
  Nodes of the tree of empty buckets, one by one.
-/
import Derived.Test.YtdbhffkfkklehaaDoorMkTab
namespace Go.Proofs.YtdbhffkfkklehaaDoor
set_option linter.unusedVariables false
theorem tab_n33 : tN' 33 = nodeN (tN' 66) (tN' 67) := by decide +kernel
theorem tab_n34 : tN' 34 = nodeN (tN' 68) (tN' 69) := by decide +kernel
theorem tab_n35 : tN' 35 = nodeN (tN' 70) (tN' 71) := by decide +kernel
theorem tab_n36 : tN' 36 = nodeN (tN' 72) (tN' 73) := by decide +kernel
theorem tab_n37 : tN' 37 = nodeN (tN' 74) (tN' 75) := by decide +kernel
theorem tab_n38 : tN' 38 = nodeN (tN' 76) (tN' 77) := by decide +kernel
theorem tab_n39 : tN' 39 = nodeN (tN' 78) (tN' 79) := by decide +kernel
theorem tab_n40 : tN' 40 = nodeN (tN' 80) (tN' 81) := by decide +kernel
theorem tab_n41 : tN' 41 = nodeN (tN' 82) (tN' 83) := by decide +kernel
theorem tab_n42 : tN' 42 = nodeN (tN' 84) (tN' 85) := by decide +kernel
theorem tab_n43 : tN' 43 = nodeN (tN' 86) (tN' 87) := by decide +kernel
theorem tab_n44 : tN' 44 = nodeN (tN' 88) (tN' 89) := by decide +kernel
theorem tab_n45 : tN' 45 = nodeN (tN' 90) (tN' 91) := by decide +kernel
theorem tab_n46 : tN' 46 = nodeN (tN' 92) (tN' 93) := by decide +kernel
theorem tab_n47 : tN' 47 = nodeN (tN' 94) (tN' 95) := by decide +kernel
theorem tab_n48 : tN' 48 = nodeN (tN' 96) (tN' 97) := by decide +kernel
end Go.Proofs.YtdbhffkfkklehaaDoor

/-
  Nodes of the tree of empty buckets, one by one.
-/
import Derived.Test.YtdbhffkfkklehaaDoorMkTab
namespace Go.Proofs.YtdbhffkfkklehaaDoor
set_option linter.unusedVariables false
theorem tab_n17 : tN' 17 = nodeN (tN' 34) (tN' 35) := by decide +kernel
theorem tab_n18 : tN' 18 = nodeN (tN' 36) (tN' 37) := by decide +kernel
theorem tab_n19 : tN' 19 = nodeN (tN' 38) (tN' 39) := by decide +kernel
theorem tab_n20 : tN' 20 = nodeN (tN' 40) (tN' 41) := by decide +kernel
theorem tab_n21 : tN' 21 = nodeN (tN' 42) (tN' 43) := by decide +kernel
theorem tab_n22 : tN' 22 = nodeN (tN' 44) (tN' 45) := by decide +kernel
theorem tab_n23 : tN' 23 = nodeN (tN' 46) (tN' 47) := by decide +kernel
theorem tab_n24 : tN' 24 = nodeN (tN' 48) (tN' 49) := by decide +kernel
theorem tab_n25 : tN' 25 = nodeN (tN' 50) (tN' 51) := by decide +kernel
theorem tab_n26 : tN' 26 = nodeN (tN' 52) (tN' 53) := by decide +kernel
theorem tab_n27 : tN' 27 = nodeN (tN' 54) (tN' 55) := by decide +kernel
theorem tab_n28 : tN' 28 = nodeN (tN' 56) (tN' 57) := by decide +kernel
theorem tab_n29 : tN' 29 = nodeN (tN' 58) (tN' 59) := by decide +kernel
theorem tab_n30 : tN' 30 = nodeN (tN' 60) (tN' 61) := by decide +kernel
theorem tab_n31 : tN' 31 = nodeN (tN' 62) (tN' 63) := by decide +kernel
theorem tab_n32 : tN' 32 = nodeN (tN' 64) (tN' 65) := by decide +kernel
end Go.Proofs.YtdbhffkfkklehaaDoor

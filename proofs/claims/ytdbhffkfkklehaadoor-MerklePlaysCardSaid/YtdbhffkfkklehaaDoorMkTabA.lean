/-
  Nodes of the tree of empty buckets, one by one.
-/
import Derived.Test.YtdbhffkfkklehaaDoorMkTab
namespace Go.Proofs.YtdbhffkfkklehaaDoor
set_option linter.unusedVariables false
theorem tab_n1 : tN' 1 = nodeN (tN' 2) (tN' 3) := by decide +kernel
theorem tab_n2 : tN' 2 = nodeN (tN' 4) (tN' 5) := by decide +kernel
theorem tab_n3 : tN' 3 = nodeN (tN' 6) (tN' 7) := by decide +kernel
theorem tab_n4 : tN' 4 = nodeN (tN' 8) (tN' 9) := by decide +kernel
theorem tab_n5 : tN' 5 = nodeN (tN' 10) (tN' 11) := by decide +kernel
theorem tab_n6 : tN' 6 = nodeN (tN' 12) (tN' 13) := by decide +kernel
theorem tab_n7 : tN' 7 = nodeN (tN' 14) (tN' 15) := by decide +kernel
theorem tab_n8 : tN' 8 = nodeN (tN' 16) (tN' 17) := by decide +kernel
theorem tab_n9 : tN' 9 = nodeN (tN' 18) (tN' 19) := by decide +kernel
theorem tab_n10 : tN' 10 = nodeN (tN' 20) (tN' 21) := by decide +kernel
theorem tab_n11 : tN' 11 = nodeN (tN' 22) (tN' 23) := by decide +kernel
theorem tab_n12 : tN' 12 = nodeN (tN' 24) (tN' 25) := by decide +kernel
theorem tab_n13 : tN' 13 = nodeN (tN' 26) (tN' 27) := by decide +kernel
theorem tab_n14 : tN' 14 = nodeN (tN' 28) (tN' 29) := by decide +kernel
theorem tab_n15 : tN' 15 = nodeN (tN' 30) (tN' 31) := by decide +kernel
theorem tab_n16 : tN' 16 = nodeN (tN' 32) (tN' 33) := by decide +kernel
end Go.Proofs.YtdbhffkfkklehaaDoor

/-
  Nodes of the tree of empty buckets, one by one.
-/
import Derived.Test.YtdbhffkfkklehaaDoorMkTab
namespace Go.Proofs.YtdbhffkfkklehaaDoor
set_option linter.unusedVariables false
theorem tab_n49 : tN' 49 = nodeN (tN' 98) (tN' 99) := by decide +kernel
theorem tab_n50 : tN' 50 = nodeN (tN' 100) (tN' 101) := by decide +kernel
theorem tab_n51 : tN' 51 = nodeN (tN' 102) (tN' 103) := by decide +kernel
theorem tab_n52 : tN' 52 = nodeN (tN' 104) (tN' 105) := by decide +kernel
theorem tab_n53 : tN' 53 = nodeN (tN' 106) (tN' 107) := by decide +kernel
theorem tab_n54 : tN' 54 = nodeN (tN' 108) (tN' 109) := by decide +kernel
theorem tab_n55 : tN' 55 = nodeN (tN' 110) (tN' 111) := by decide +kernel
theorem tab_n56 : tN' 56 = nodeN (tN' 112) (tN' 113) := by decide +kernel
theorem tab_n57 : tN' 57 = nodeN (tN' 114) (tN' 115) := by decide +kernel
theorem tab_n58 : tN' 58 = nodeN (tN' 116) (tN' 117) := by decide +kernel
theorem tab_n59 : tN' 59 = nodeN (tN' 118) (tN' 119) := by decide +kernel
theorem tab_n60 : tN' 60 = nodeN (tN' 120) (tN' 121) := by decide +kernel
theorem tab_n61 : tN' 61 = nodeN (tN' 122) (tN' 123) := by decide +kernel
theorem tab_n62 : tN' 62 = nodeN (tN' 124) (tN' 125) := by decide +kernel
theorem tab_n63 : tN' 63 = nodeN (tN' 126) (tN' 127) := by decide +kernel
end Go.Proofs.YtdbhffkfkklehaaDoor

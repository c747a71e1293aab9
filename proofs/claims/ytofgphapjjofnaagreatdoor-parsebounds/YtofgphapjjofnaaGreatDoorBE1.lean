/- ParseBounds: the texts of kind 1 with at most 64 brackets, each read by evaluating the lexer and the parser in the kernel. -/
import Derived.Test.YtofgphapjjofnaaGreatDoorBD
namespace Go.Proofs.YtofgphapjjofnaaGreatDoor
set_option maxRecDepth 100000
theorem be1_0 : bndR 1 1 40 = true := by decide +kernel
theorem be1_1 : bndR 1 41 11 = true := by decide +kernel
theorem be1_2 : bndR 1 52 7 = true := by decide +kernel
theorem be1_3 : bndR 1 59 6 = true := by decide +kernel
theorem be1 {n : Nat} (h1 : 1 ≤ n) (h2 : n ≤ 64) : ∃ t, ansB (bndB 1 n) 2000 .expr = some t := by
  by_cases c0 : n < 41
  · exact bndR_get be1_0 (by omega) (by omega)
  by_cases c1 : n < 52
  · exact bndR_get be1_1 (by omega) (by omega)
  by_cases c2 : n < 59
  · exact bndR_get be1_2 (by omega) (by omega)
  exact bndR_get be1_3 (by omega) (by omega)
end Go.Proofs.YtofgphapjjofnaaGreatDoor

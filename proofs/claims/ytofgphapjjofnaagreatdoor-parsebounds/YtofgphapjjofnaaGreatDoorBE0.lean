/- ParseBounds: the texts of kind 0 with at most 64 brackets, each read by evaluating the lexer and the parser in the kernel. -/
import Derived.Test.YtofgphapjjofnaaGreatDoorBD
namespace Go.Proofs.YtofgphapjjofnaaGreatDoor
set_option maxRecDepth 100000
theorem be0_0 : bndR 0 1 42 = true := by decide +kernel
theorem be0_1 : bndR 0 43 11 = true := by decide +kernel
theorem be0_2 : bndR 0 54 8 = true := by decide +kernel
theorem be0_3 : bndR 0 62 3 = true := by decide +kernel
theorem be0 {n : Nat} (h1 : 1 ≤ n) (h2 : n ≤ 64) : ∃ t, ansB (bndB 0 n) 2000 .expr = some t := by
  by_cases c0 : n < 43
  · exact bndR_get be0_0 (by omega) (by omega)
  by_cases c1 : n < 54
  · exact bndR_get be0_1 (by omega) (by omega)
  by_cases c2 : n < 62
  · exact bndR_get be0_2 (by omega) (by omega)
  exact bndR_get be0_3 (by omega) (by omega)
end Go.Proofs.YtofgphapjjofnaaGreatDoor

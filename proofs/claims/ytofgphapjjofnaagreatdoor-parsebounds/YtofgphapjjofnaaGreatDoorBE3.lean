/- ParseBounds: the texts of kind 3 with at most 64 brackets, each read by evaluating the lexer and the parser in the kernel. -/
import Derived.Test.YtofgphapjjofnaaGreatDoorBD
namespace Go.Proofs.YtofgphapjjofnaaGreatDoor
set_option maxRecDepth 100000
theorem be3_0 : bndR 3 1 29 = true := by decide +kernel
theorem be3_1 : bndR 3 30 8 = true := by decide +kernel
theorem be3_2 : bndR 3 38 5 = true := by decide +kernel
theorem be3_3 : bndR 3 43 4 = true := by decide +kernel
theorem be3_4 : bndR 3 47 3 = true := by decide +kernel
theorem be3_5 : bndR 3 50 3 = true := by decide +kernel
theorem be3_6 : bndR 3 53 3 = true := by decide +kernel
theorem be3_7 : bndR 3 56 2 = true := by decide +kernel
theorem be3_8 : bndR 3 58 2 = true := by decide +kernel
theorem be3_9 : bndR 3 60 2 = true := by decide +kernel
theorem be3_10 : bndR 3 62 2 = true := by decide +kernel
theorem be3_11 : bndR 3 64 1 = true := by decide +kernel
theorem be3 {n : Nat} (h1 : 1 ≤ n) (h2 : n ≤ 64) : ∃ t, ansB (bndB 3 n) 2000 .expr = some t := by
  by_cases c0 : n < 30
  · exact bndR_get be3_0 (by omega) (by omega)
  by_cases c1 : n < 38
  · exact bndR_get be3_1 (by omega) (by omega)
  by_cases c2 : n < 43
  · exact bndR_get be3_2 (by omega) (by omega)
  by_cases c3 : n < 47
  · exact bndR_get be3_3 (by omega) (by omega)
  by_cases c4 : n < 50
  · exact bndR_get be3_4 (by omega) (by omega)
  by_cases c5 : n < 53
  · exact bndR_get be3_5 (by omega) (by omega)
  by_cases c6 : n < 56
  · exact bndR_get be3_6 (by omega) (by omega)
  by_cases c7 : n < 58
  · exact bndR_get be3_7 (by omega) (by omega)
  by_cases c8 : n < 60
  · exact bndR_get be3_8 (by omega) (by omega)
  by_cases c9 : n < 62
  · exact bndR_get be3_9 (by omega) (by omega)
  by_cases c10 : n < 64
  · exact bndR_get be3_10 (by omega) (by omega)
  exact bndR_get be3_11 (by omega) (by omega)
end Go.Proofs.YtofgphapjjofnaaGreatDoor

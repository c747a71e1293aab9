/- ParseBounds: the texts of kind 2 with at most 64 brackets, each read by evaluating the lexer and the parser in the kernel. -/
import Derived.Test.YtofgphapjjofnaaGreatDoorBD
namespace Go.Proofs.YtofgphapjjofnaaGreatDoor
set_option maxRecDepth 100000
theorem be2_0 : bndR 2 1 26 = true := by decide +kernel
theorem be2_1 : bndR 2 27 7 = true := by decide +kernel
theorem be2_2 : bndR 2 34 4 = true := by decide +kernel
theorem be2_3 : bndR 2 38 4 = true := by decide +kernel
theorem be2_4 : bndR 2 42 3 = true := by decide +kernel
theorem be2_5 : bndR 2 45 3 = true := by decide +kernel
theorem be2_6 : bndR 2 48 2 = true := by decide +kernel
theorem be2_7 : bndR 2 50 2 = true := by decide +kernel
theorem be2_8 : bndR 2 52 2 = true := by decide +kernel
theorem be2_9 : bndR 2 54 2 = true := by decide +kernel
theorem be2_10 : bndR 2 56 2 = true := by decide +kernel
theorem be2_11 : bndR 2 58 1 = true := by decide +kernel
theorem be2_12 : bndR 2 59 1 = true := by decide +kernel
theorem be2_13 : bndR 2 60 1 = true := by decide +kernel
theorem be2_14 : bndR 2 61 1 = true := by decide +kernel
theorem be2_15 : bndR 2 62 1 = true := by decide +kernel
theorem be2_16 : bndR 2 63 1 = true := by decide +kernel
theorem be2_17 : bndR 2 64 1 = true := by decide +kernel
theorem be2 {n : Nat} (h1 : 1 ≤ n) (h2 : n ≤ 64) : ∃ t, ansB (bndB 2 n) 2000 .expr = some t := by
  by_cases c0 : n < 27
  · exact bndR_get be2_0 (by omega) (by omega)
  by_cases c1 : n < 34
  · exact bndR_get be2_1 (by omega) (by omega)
  by_cases c2 : n < 38
  · exact bndR_get be2_2 (by omega) (by omega)
  by_cases c3 : n < 42
  · exact bndR_get be2_3 (by omega) (by omega)
  by_cases c4 : n < 45
  · exact bndR_get be2_4 (by omega) (by omega)
  by_cases c5 : n < 48
  · exact bndR_get be2_5 (by omega) (by omega)
  by_cases c6 : n < 50
  · exact bndR_get be2_6 (by omega) (by omega)
  by_cases c7 : n < 52
  · exact bndR_get be2_7 (by omega) (by omega)
  by_cases c8 : n < 54
  · exact bndR_get be2_8 (by omega) (by omega)
  by_cases c9 : n < 56
  · exact bndR_get be2_9 (by omega) (by omega)
  by_cases c10 : n < 58
  · exact bndR_get be2_10 (by omega) (by omega)
  by_cases c11 : n < 59
  · exact bndR_get be2_11 (by omega) (by omega)
  by_cases c12 : n < 60
  · exact bndR_get be2_12 (by omega) (by omega)
  by_cases c13 : n < 61
  · exact bndR_get be2_13 (by omega) (by omega)
  by_cases c14 : n < 62
  · exact bndR_get be2_14 (by omega) (by omega)
  by_cases c15 : n < 63
  · exact bndR_get be2_15 (by omega) (by omega)
  by_cases c16 : n < 64
  · exact bndR_get be2_16 (by omega) (by omega)
  exact bndR_get be2_17 (by omega) (by omega)
end Go.Proofs.YtofgphapjjofnaaGreatDoor

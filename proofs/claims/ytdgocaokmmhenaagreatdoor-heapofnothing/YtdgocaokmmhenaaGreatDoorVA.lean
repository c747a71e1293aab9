/- Numbers of 32 digits. -/
import Derived.Test.YtdgocaokmmhenaaGreatDoorV0
import Derived.Laws.BitsAllLaws
namespace Go.Proofs.YtdgocaokmmhenaaGreatDoor
set_option linter.unusedSimpArgs false
set_option linter.unusedVariables false
set_option maxRecDepth 100000
open Go.RowKit
theorem w32 (n : Int) : wrap32 n = (n + 2147483648) % 4294967296 - 2147483648 := by rw [wrap32]
theorem w64 (n : Int) : wrap64 n = (n + 9223372036854775808) % 18446744073709551616 - 9223372036854775808 := by rw [wrap64]
theorem wi32 (n : Int) : IntKind.i32.wrap n = wrap32 n := IntWalk.i32_left n
theorem wi64 (n : Int) : IntKind.i64.wrap n = wrap64 n := IntWalk.i64_left n
/-- The digits as a number from 0 on. -/
def u32 (n : Int) : Nat := (n % 4294967296).toNat
theorem u32_lt (n : Int) : u32 n < 4294967296 := by unfold u32; omega
theorem of32 (n : Int) : (BitVec.ofInt 32 n).toNat = u32 n := by
  rw [BitVec.toNat_ofInt]; rfl
theorem of32w (n : Int) : (BitVec.ofInt 32 (wrap32 n)).toNat = u32 n := by
  rw [of32]; unfold u32; rw [w32]; omega
theorem bits32 (a b : Int) :
    bits .and .i32 (wrap32 a) (wrap32 b) = wrap32 ((u32 a &&& u32 b : Nat) : Int) ∧ bits .or .i32 (wrap32 a) (wrap32 b) = wrap32 ((u32 a ||| u32 b : Nat) : Int) ∧ bits .xor .i32 (wrap32 a) (wrap32 b) = wrap32 ((u32 a ^^^ u32 b : Nat) : Int) := by
  refine ⟨?_, ?_, ?_⟩
  · show IntKind.i32.wrap ((BitVec.ofInt 32 (wrap32 a) &&& BitVec.ofInt 32 (wrap32 b)).toNat : Int) = _
    rw [BitVec.toNat_and, of32w, of32w, wi32]
  · show IntKind.i32.wrap ((BitVec.ofInt 32 (wrap32 a) ||| BitVec.ofInt 32 (wrap32 b)).toNat : Int) = _
    rw [BitVec.toNat_or, of32w, of32w, wi32]
  · show IntKind.i32.wrap ((BitVec.ofInt 32 (wrap32 a) ^^^ BitVec.ofInt 32 (wrap32 b)).toNat : Int) = _
    rw [BitVec.toNat_xor, of32w, of32w, wi32]
theorem not32 (n : Int) : bits .xor .i32 (-1) (wrap32 n) = -(wrap32 n) - 1 := by
  show IntKind.i32.wrap ((BitVec.ofInt 32 (-1) ^^^ BitVec.ofInt 32 (wrap32 n)).toNat : Int) = _
  have e : BitVec.ofInt 32 (-1) = BitVec.allOnes 32 := by decide
  rw [e, BitVec.allOnes_xor, BitVec.toNat_not, of32w, wi32]
  have := u32_lt n
  have h2 : (u32 n : Int) = n % 4294967296 := by unfold u32; omega
  rw [w32, w32]
  omega
theorem turn_eq (n : Int) : wrap64 (bits .xor .i32 (-1) (wrap32 n)) = wrap64 (wrap32 ((-(n % 4294967296) - 1) % 4294967296)) := by
  rw [not32, w32, w32]
  congr 1
  omega
end Go.Proofs.YtdgocaokmmhenaaGreatDoor

/- Get of a thing. -/
import Derived.Test.YtdgocaokmmhenaaGreatDoorHB
namespace Go.Proofs.YtdgocaokmmhenaaGreatDoor
set_option linter.unusedSimpArgs false
set_option linter.unusedVariables false
set_option maxRecDepth 100000
set_option maxHeartbeats 2000000
open Go.RowKit Go.Shelf

variable {w W : World} {l : Ly} {hb : Nat} {H : PH}
def isLen (key : ByteArray) : Bool := key.toList == [108, 101, 110, 103, 116, 104]
/-- What find answers of a thing. -/
def fndP (H : PH) (i : Nat) (key : ByteArray) : Option PV := match H.ths[i]? with
  | none => none
  | some t => if t.kind = 2 then (if isLen key then some ⟨3, t.vals.length, ByteArray.empty⟩ else none) else findP H.ths key i
theorem find_one (h : HAt W l hb H) (i : Nat) (t : Th) (hi : H.ths[i]? = some t) (key : ByteArray) (hs : key.size ≤ maxLen) : Calls Tryz.prog (if t.kind = 2 then 138 else 114) #[ptr (l.bx i), .string key] W fun e w' => e = .returned (.tuple #[((fndP H i key).getD PV.und).agg, .bool (fndP H i key).isSome]) ∧ Below W.heap.size W w' := by
  unfold fndP
  rw [hi]
  by_cases hk : t.kind = 2
  · simp only [hk, if_true]
    have := find_103 h i t hi hk key _ rfl
    cases e : isLen key
    · simpa [isLen, show (key.toList == [108, 101, 110, 103, 116, 104]) = false from e] using this
    · simpa [isLen, show (key.toList == [108, 101, 110, 103, 116, 104]) = true from e] using this
  · simp only [hk, if_false]
    exact find_80 h i t hi hk key hs
end Go.Proofs.YtdgocaokmmhenaaGreatDoor

/- The order of two texts; a sort of what is in order. -/
import Derived.Test.YticdaphajanbbaaGreatDoorKZ
namespace Go.Proofs.YticdaphajanbbaaGreatDoor
set_option linter.unusedSimpArgs false
set_option linter.unusedVariables false
set_option maxRecDepth 100000
set_option maxHeartbeats 4000000
open Go.RowKit Go.Shelf

variable {P : Program} {lo M : Nat} {mo : Option Nat} {dv : Value} {L : List Kt} {W : World}
theorem nan_no (s : ByteArray) (w : World) : Calls Tryz.prog 105 #[.string s] w fun e w' => e = .returned (.bool false) ∧ w' = w := by
  go_enter Tryz.func105, Tryz.ntmps105
  go_wp2
  go_ret
  exact ⟨by simp, rfl⟩
/-- A text that is not ahead of another. -/
theorem cmp_ge (a b : ByteArray) (h : Op.bytesLess a.toList b.toList = false) (w : World) : Calls Tryz.prog 81 #[.string a, .string b] w fun e w' => (∃ c : Int, e = .returned (.int .i64 c) ∧ 0 ≤ c) ∧ w' = w := by
  go_enter Tryz.func81, Tryz.ntmps81
  go_wp2_with (first
    | (go_at_call 105
       refine (nan_no _ _).mono ?_
       rintro e w2 ⟨rfl, rfl⟩))
  all_goals (go_ret; exact ⟨⟨_, rfl, by omega⟩, rfl⟩)
theorem less_no (a b : ByteArray) (x y : Int) (h : Op.bytesLess a.toList b.toList = false) (w : World) : Calls Tryz.prog 80 #[.agg #[.string a, .int .i64 x], .agg #[.string b, .int .i64 y]] w fun e w' => (∃ c : Int, e = .returned (.int .i64 c) ∧ 0 ≤ c) ∧ Below w.heap.size w w' := by
  have HC : Hid (∀ w, Calls Tryz.prog 81 #[.string a, .string b] w fun e w' => (∃ c : Int, e = .returned (.int .i64 c) ∧ 0 ≤ c) ∧ w' = w) := fun w => cmp_ge a b h w
  clear h
  go_enter Tryz.func80, Tryz.ntmps80
  go_wp2_with (first
    | (go_at_call 81
       refine (unhide HC _).mono ?_
       rintro e w2 ⟨⟨c, rfl, hc⟩, rfl⟩))
  go_ret
  exact ⟨⟨c, rfl, hc⟩, ((Below.refl _ w).alloc (Nat.le_refl _) _).alloc (by simp) _⟩
end Go.Proofs.YticdaphajanbbaaGreatDoor

/- The order of two texts; a sort of what is in order. -/
import Derived.Test.YtapnnbgcdijfpaaGreatDoorKZ
namespace Go.Proofs.YtapnnbgcdijfpaaGreatDoor
set_option linter.unusedSimpArgs false
set_option linter.unusedVariables false
set_option maxRecDepth 100000
set_option maxHeartbeats 4000000
open Go.RowKit Go.Shelf

variable {P : Program} {lo M : Nat} {mo : Option Nat} {dv : Value} {L : List Kt} {W : World}
theorem nan_no (s : ByteArray) (w : World) : Calls Tryz.prog 146 #[.string s] w fun e w' => e = .returned (.bool false) ∧ w' = w := by
  go_enter Tryz.func146, Tryz.ntmps146
  go_wp2
  go_ret
  exact ⟨by simp, rfl⟩
/-- A text that is not ahead of another. -/
theorem cmp_ge (a b : ByteArray) (h : Op.bytesLess a.toList b.toList = false) (w : World) : Calls Tryz.prog 110 #[.string a, .string b] w fun e w' => (∃ c : Int, e = .returned (.int .i64 c) ∧ 0 ≤ c) ∧ w' = w := by
  go_enter Tryz.func110, Tryz.ntmps110
  go_wp2_with (first
    | (go_at_call 146
       refine (nan_no _ _).mono ?_
       rintro e w2 ⟨rfl, rfl⟩))
  all_goals (go_ret; exact ⟨⟨_, rfl, by omega⟩, rfl⟩)
theorem less_no (a b : ByteArray) (x y : Int) (h : Op.bytesLess a.toList b.toList = false) (w : World) : Calls Tryz.prog 109 #[.agg #[.string a, .int .i64 x], .agg #[.string b, .int .i64 y]] w fun e w' => (∃ c : Int, e = .returned (.int .i64 c) ∧ 0 ≤ c) ∧ Below w.heap.size w w' := by
  have HC : Hid (∀ w, Calls Tryz.prog 110 #[.string a, .string b] w fun e w' => (∃ c : Int, e = .returned (.int .i64 c) ∧ 0 ≤ c) ∧ w' = w) := fun w => cmp_ge a b h w
  clear h
  go_enter Tryz.func109, Tryz.ntmps109
  go_wp2_with (first
    | (go_at_call 110
       refine (unhide HC _).mono ?_
       rintro e w2 ⟨⟨c, rfl, hc⟩, rfl⟩))
  go_ret
  exact ⟨⟨c, rfl, hc⟩, ((Below.refl _ w).alloc (Nat.le_refl _) _).alloc (by simp) _⟩
end Go.Proofs.YtapnnbgcdijfpaaGreatDoor

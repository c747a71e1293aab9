/- What text.asked and text.allowed answer, at every byte and every rune. -/
import Derived.Test.YtpdkeggiokebmaaDoorA0
import Derived.Test.YtpdkeggiokebmaaDoorRows
import Derived.WalkKit
import Derived.WalkSpells
import Derived.WalkLawsBesides
namespace Go.Proofs.YtpdkeggiokebmaaDoor
set_option linter.unusedSimpArgs false
set_option linter.unusedVariables false
open Go.RowKit

theorem hide {p : Prop} (h : p) : Hid p := h
theorem unhide {p : Prop} (h : Hid p) : p := h

theorem ret3_of {a a' b b' c c' : Int} (h1 : a = a') (h2 : b = b') (h3 : c = c') : Ending.returned (.tuple #[.int .i64 a, .int .i32 b, .int .i32 c]) = .returned (.tuple #[.int .i64 a', .int .i32 b', .int .i32 c']) := by rw [h1, h2, h3]

set_option maxHeartbeats 400000 in
theorem asked_any (x : Int) (h0 : 0 ≤ x) (h1 : x ≤ 255) (w : World) :
    Calls Tryd.prog 58 #[.int .u8 x] w fun e w' => e = .returned (.tuple #[.int .i64 (wid x), .int .i32 (dig x), .int .i32 (lst x)]) ∧ w' = w := by
  go_enter Tryd.func58, Tryd.ntmps58
  go_wp2
  · go_ret3
    have h : x < 128 := by assumption
    exact ⟨ret3_of (by simp [wid, h]) (by simp [dig, h]) (by simp [lst, h]), rfl⟩
  · go_ret3
    have h : (x / 32 == 6) = true := by assumption
    have h' := beq_iff_eq.1 h
    exact ⟨ret3_of (by unfold wid; repeat' split
                       all_goals omega) (by unfold dig; repeat' split
                                            all_goals omega) (by unfold lst; repeat' split
                                                                 all_goals omega), rfl⟩
  · go_ret3
    have h : (x / 16 == 14) = true := by assumption
    have h' := beq_iff_eq.1 h
    exact ⟨ret3_of (by unfold wid; repeat' split
                       all_goals omega) (by unfold dig; repeat' split
                                            all_goals omega) (by unfold lst; repeat' split
                                                                 all_goals omega), rfl⟩
  · go_ret3
    have h : (x / 8 == 30) = true := by assumption
    have h' := beq_iff_eq.1 h
    exact ⟨ret3_of (by unfold wid; repeat' split
                       all_goals omega) (by unfold dig; repeat' split
                                            all_goals omega) (by unfold lst; repeat' split
                                                                 all_goals omega), rfl⟩
  · go_ret3
    have h : (x / 8 == 30) = false := by assumption
    have h' := beq_eq_false_iff_ne.1 h
    have g : (x / 16 == 14) = false := by assumption
    have g' := beq_eq_false_iff_ne.1 g
    have f : (x / 32 == 6) = false := by assumption
    have f' := beq_eq_false_iff_ne.1 f
    exact ⟨ret3_of (by unfold wid; repeat' split
                       all_goals omega) (by unfold dig; repeat' split
                                            all_goals omega) (by unfold lst; repeat' split
                                                                 all_goals omega), rfl⟩

theorem ret_bool {a b : Bool} (h : a = b) : Ending.returned (.bool a) = .returned (.bool b) := by rw [h]

set_option maxHeartbeats 400000 in
theorem allowed_any (r : Int) (w : World) :
    Calls Tryd.prog 59 #[.int .i32 r] w fun e w' => e = .returned (.bool (alw r)) ∧ w' = w := by
  go_enter Tryd.func59, Tryd.ntmps59
  by_cases h1 : r < 55296
  · go_wp2
    go_ret
    exact ⟨ret_bool (by simp [alw, h1]), rfl⟩
  · by_cases h2 : 57343 < r
    · go_wp2
      go_ret
      exact ⟨ret_bool (by simp [alw, h1, h2] <;> omega), rfl⟩
    · go_wp2
      go_ret
      exact ⟨ret_bool (by simp [alw, h1, h2] <;> omega), rfl⟩
end Go.Proofs.YtpdkeggiokebmaaDoor

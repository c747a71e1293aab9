/- num; two_vals; numbers beyond the ends are known. -/
import Derived.Test.YthjlhdldomfikabDoorVJ
import Derived.Test.YthjlhdldomfikabDoorVK
namespace Go.Proofs.YthjlhdldomfikabDoor
set_option linter.unusedSimpArgs false
set_option linter.unusedVariables false
set_option maxRecDepth 100000
set_option maxHeartbeats 4000000
open Go.RowKit Go.Shelf
theorem num_any (n : Int) : Ret 9 #[.int .i64 n] (.agg (Vc 3 n ByteArray.empty)) := by
  intro W
  go_enter Tryd.func9, Tryd.ntmps9
  go_wp2
  refine bodyPost_ret (by simp [results, Tryd.results9, go_sem]; rfl) rfl ⟨rfl, below_one _ _⟩
theorem big_3 (a b : Int) (h : 9007199254740991 < a ∨ a < -9007199254740991 ∨ 9007199254740991 < b ∨ b < -9007199254740991) : Ret 3 #[.int .i64 a, .int .i64 b] (.bool true) := by
  intro W
  have HK := hide known_any
  by_cases h1 : 9007199254740991 < a
  · clear h
    go_enter Tryd.func3, Tryd.ntmps3
    go_wp2_with (go_at_call 7; refine (unhide HK _).mono ?_; rintro e w2 ⟨rfl, hb2⟩)
    go_ret
    exact ⟨rfl, hb2⟩
  by_cases h2 : a < -9007199254740991
  · clear h
    go_enter Tryd.func3, Tryd.ntmps3
    go_wp2_with (go_at_call 7; refine (unhide HK _).mono ?_; rintro e w2 ⟨rfl, hb2⟩)
    go_ret
    exact ⟨rfl, hb2⟩
  by_cases h3 : 9007199254740991 < b
  · clear h
    go_enter Tryd.func3, Tryd.ntmps3
    go_wp2_with (go_at_call 7; refine (unhide HK _).mono ?_; rintro e w2 ⟨rfl, hb2⟩)
    go_ret
    exact ⟨rfl, hb2⟩
  have h4 : b < -9007199254740991 := by omega
  clear h
  go_enter Tryd.func3, Tryd.ntmps3
  go_wp2_with (go_at_call 7; refine (unhide HK _).mono ?_; rintro e w2 ⟨rfl, hb2⟩)
  go_ret
  exact ⟨rfl, hb2⟩
theorem big_4 (a b : Int) (h : 9007199254740991 < a ∨ a < -9007199254740991 ∨ 9007199254740991 < b ∨ b < -9007199254740991) : Ret 4 #[.int .i64 a, .int .i64 b] (.bool true) := by
  intro W
  have HK := hide known_any
  by_cases h1 : 9007199254740991 < a
  · clear h
    go_enter Tryd.func4, Tryd.ntmps4
    go_wp2_with (go_at_call 7; refine (unhide HK _).mono ?_; rintro e w2 ⟨rfl, hb2⟩)
    go_ret
    exact ⟨rfl, hb2⟩
  by_cases h2 : a < -9007199254740991
  · clear h
    go_enter Tryd.func4, Tryd.ntmps4
    go_wp2_with (go_at_call 7; refine (unhide HK _).mono ?_; rintro e w2 ⟨rfl, hb2⟩)
    go_ret
    exact ⟨rfl, hb2⟩
  by_cases h3 : 9007199254740991 < b
  · clear h
    go_enter Tryd.func4, Tryd.ntmps4
    go_wp2_with (go_at_call 7; refine (unhide HK _).mono ?_; rintro e w2 ⟨rfl, hb2⟩)
    go_ret
    exact ⟨rfl, hb2⟩
  have h4 : b < -9007199254740991 := by omega
  clear h
  go_enter Tryd.func4, Tryd.ntmps4
  go_wp2_with (go_at_call 7; refine (unhide HK _).mono ?_; rintro e w2 ⟨rfl, hb2⟩)
  go_ret
  exact ⟨rfl, hb2⟩
theorem big_5 (a b : Int) (h : 9007199254740991 < a ∨ a < -9007199254740991 ∨ 9007199254740991 < b ∨ b < -9007199254740991) : Ret 5 #[.int .i64 a, .int .i64 b] (.bool true) := by
  intro W
  have HK := hide known_any
  by_cases h1 : 9007199254740991 < a
  · clear h
    go_enter Tryd.func5, Tryd.ntmps5
    go_wp2_with (go_at_call 7; refine (unhide HK _).mono ?_; rintro e w2 ⟨rfl, hb2⟩)
    go_ret
    exact ⟨rfl, hb2⟩
  by_cases h2 : a < -9007199254740991
  · clear h
    go_enter Tryd.func5, Tryd.ntmps5
    go_wp2_with (go_at_call 7; refine (unhide HK _).mono ?_; rintro e w2 ⟨rfl, hb2⟩)
    go_ret
    exact ⟨rfl, hb2⟩
  by_cases h3 : 9007199254740991 < b
  · clear h
    go_enter Tryd.func5, Tryd.ntmps5
    go_wp2_with (go_at_call 7; refine (unhide HK _).mono ?_; rintro e w2 ⟨rfl, hb2⟩)
    go_ret
    exact ⟨rfl, hb2⟩
  have h4 : b < -9007199254740991 := by omega
  clear h
  go_enter Tryd.func5, Tryd.ntmps5
  go_wp2_with (go_at_call 7; refine (unhide HK _).mono ?_; rintro e w2 ⟨rfl, hb2⟩)
  go_ret
  exact ⟨rfl, hb2⟩
end Go.Proofs.YthjlhdldomfikabDoor

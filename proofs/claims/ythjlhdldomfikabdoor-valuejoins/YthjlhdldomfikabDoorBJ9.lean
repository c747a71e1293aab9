/- The law ValueJoins at every two texts and every number. -/
import Derived.LoopTactic
import Derived.Test.YthjlhdldomfikabDoorBJ
namespace Go.Proofs.YthjlhdldomfikabDoor
set_option linter.unusedSimpArgs false
set_option linter.unusedVariables false
set_option maxRecDepth 100000
set_option maxHeartbeats 1000000
open Go.RowKit Go.Shelf

theorem joins_big (a b : ByteArray) (n : Int) (ha : a.size ≤ 140737488351232) (hb : b.size ≤ 140737488351232) (h : 2000 < a.size + b.size ∨ 9007199254740991 < n ∨ n < -9007199254740991) : Ret 6 #[.string a, .string b, .int .i64 n] (.bool true) := by
  intro W
  have HK := hide known_any
  have ga : (a.size : Int) ≤ 140737488351232 := by omega
  have gb : (b.size : Int) ≤ 140737488351232 := by omega
  by_cases h1 : 2000 < a.size + b.size
  · have g1 : (2000 : Int) < (a.size : Int) + (b.size : Int) := by omega
    clear h h1 ha hb
    go_enter Tryd.func6, Tryd.ntmps6
    go_wp2_with (go_at_call 7; refine (unhide HK _).mono ?_; rintro e w1 ⟨rfl, hb1⟩; have HB1 := hide hb1; clear hb1)
    go_ret
    exact ⟨rfl, unhide HB1⟩
  · have g1 : ¬ ((2000 : Int) < (a.size : Int) + (b.size : Int)) := by omega
    by_cases h2 : 9007199254740991 < n
    · clear h h1 ha hb
      go_enter Tryd.func6, Tryd.ntmps6
      go_wp2_with (go_at_call 7; refine (unhide HK _).mono ?_; rintro e w1 ⟨rfl, hb1⟩; have HB1 := hide hb1; clear hb1)
      go_ret
      exact ⟨rfl, unhide HB1⟩
    · have h3 : n < -9007199254740991 := by omega
      clear h h1 ha hb
      go_enter Tryd.func6, Tryd.ntmps6
      go_wp2_with (go_at_call 7; refine (unhide HK _).mono ?_; rintro e w1 ⟨rfl, hb1⟩; have HB1 := hide hb1; clear hb1)
      go_ret
      exact ⟨rfl, unhide HB1⟩
theorem joins_any (a b : ByteArray) (n : Int) (ha : a.size ≤ 140737488351232) (hb : b.size ≤ 140737488351232) (W : World) (hT : Lib.TabIs Tryd.prog W "internal/strconv.uint64pow10" .u64 Lib.pow10Tab) : Calls Tryd.prog 6 #[.string a, .string b, .int .i64 n] W fun e w' => e = .returned (.bool true) ∧ Below W.heap.size W w' := by
  by_cases h : 2000 < a.size + b.size ∨ 9007199254740991 < n ∨ n < -9007199254740991
  · exact joins_big a b n ha hb h W
  · have h0 : -9007199254740991 ≤ n := by omega
    have h1 : n ≤ 9007199254740991 := by omega
    have hs := itoa_size n h0 h1
    have e1 : (a ++ itoaT n).size = a.size + (itoaT n).size := ByteArray.size_append
    have e2 : (itoaT n ++ b).size = (itoaT n).size + b.size := ByteArray.size_append
    have hS := plus_tt (A := W) a (itoaT n ++ b) (by omega) (by omega)
    rw [← ByteArray.append_assoc] at hS
    exact joins_main a b (a ++ itoaT n) (itoaT n ++ b) (a ++ itoaT n ++ b) (itoaT n) n W (by omega) (by omega) h0 h1 rfl (plus_tn h0 h1 hT a (by omega)) (plus_tt (a ++ itoaT n) b (by omega) (by omega)) (plus_nt h0 h1 hT b (by omega)) hS (text_num h0 h1 hT)
end Go.Proofs.YthjlhdldomfikabDoor

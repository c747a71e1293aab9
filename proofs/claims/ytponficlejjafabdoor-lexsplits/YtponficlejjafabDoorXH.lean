/- The law LexSplits holds in whatever memory. -/
import Derived.Test.YtponficlejjafabDoorXG2
namespace Go.Proofs.YtponficlejjafabDoor
set_option linter.unusedSimpArgs false
set_option linter.unusedVariables false
open Go.RowKit Go.Shelf

set_option maxRecDepth 100000 in
set_option maxHeartbeats 1000000 in
theorem splits_walk (tv : Value) (x0 x2 x3 : Int) (x1 : ByteArray) (r : Bool) (w : World) (h21 : ∀ W, Calls Tryd.prog 21 #[tv] W fun e w' => e = .returned (.tuple #[.agg #[.int .i64 x0, .string x1, .int .i64 x2, .int .i64 x3], .bool r]) ∧ Below W.heap.size W w') (h22 : ∀ W, Calls Tryd.prog 22 #[tv] W fun e w' => e = .returned (.tuple #[.agg #[.int .i64 x0, .string x1, .int .i64 x2, .int .i64 x3], .bool r]) ∧ Below W.heap.size W w')
    (k a b : Int) (s : ByteArray) (htv : tv = .agg #[.int .i64 k, .string s, .int .i64 a, .int .i64 b]) :
    Calls Tryd.prog 6 #[tv] w fun e w' => e = .returned (.bool true) ∧ Below w.heap.size w w' := by
  subst htv
  have H21 := hide h21
  have H22 := hide h22
  clear h21 h22
  go_enter Tryd.func6, Tryd.ntmps6
  go_wp2_with (first | (go_at_call 21; refine (unhide H21 _).mono ?_; rintro e W2 ⟨rfl, hB2⟩; have hl2 : w.heap.size < W2.heap.size := (Nat.lt_of_lt_of_le (by simp) hB2.size); have hr2 := ((heap_alloc_old W2 (.cells #[.int .i64 x0, .string x1, .int .i64 x2, .int .i64 x3] 37) hl2).trans (hB2.block w.heap.size (by simp))).trans (World.alloc_heap_new w _); obtain ⟨c0, c1, c2, c3⟩ := tok_cells hr2) | (go_at_call 22; refine (unhide H22 _).mono ?_; rintro e W3 ⟨rfl, hB3⟩; have hl3 : W2.heap.size < W3.heap.size := (Nat.lt_of_lt_of_le (by simp) hB3.size); have hr3 := ((heap_alloc_old W3 (.cells #[.int .i64 x0, .string x1, .int .i64 x2, .int .i64 x3] 37) hl3).trans (hB3.block W2.heap.size (by simp))).trans (World.alloc_heap_new W2 _); obtain ⟨g0, g1, g2, g3⟩ := tok_cells hr3) | (go_at_call 17; refine (lexknown_any _).mono ?_; rintro e W4 ⟨rfl, hB4⟩))
  go_ret
  have h2 : Below w.heap.size w W2 := ((Below.refl _ w).alloc (Nat.le_refl _) _).trans (hB2.mono (by simp))
  have z2 := h2.size
  have h3 : Below w.heap.size w W3 := (h2.alloc z2 _).trans (hB3.mono (by simp; omega))
  have z3 := h3.size
  exact ⟨rfl, (h3.alloc z3 _).trans (hB4.mono (by simp; omega))⟩

theorem splits_any (k a b : Int) (s : ByteArray) (w : World) (hlim : s.size ≤ 281474976710656) :
    Calls Tryd.prog 6 #[.agg #[.int .i64 k, .string s, .int .i64 a, .int .i64 b]] w fun e w' => e = .returned (.bool true) ∧ Below w.heap.size w w' := by
  by_cases hg : Good k s
  · obtain ⟨h1, h2, h3⟩ := hg
    exact splits_walk _ _ _ _ _ _ w (fun W => split21_good k a b s W h1 hlim h2 h3) (fun W => split22_good k a b s W h1 h2 h3) k a b s rfl
  · exact splits_walk _ _ _ _ _ _ w (fun W => split21_bad k a b s W hg) (fun W => split22_bad k a b s W hg) k a b s rfl
end Go.Proofs.YtponficlejjafabDoor

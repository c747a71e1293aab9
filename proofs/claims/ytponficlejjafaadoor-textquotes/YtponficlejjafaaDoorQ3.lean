/- text.quoted at every rune, text.Quote at every text, shuckref1.hex. -/
import Derived.Test.YtponficlejjafaaDoorQ0
import Derived.Test.YtponficlejjafaaDoorD2
import Derived.Test.YtponficlejjafaaDoorQ2a
import Derived.Test.YtponficlejjafaaDoorQ2b
import Derived.Test.YtponficlejjafaaDoorQ2c
import Derived.Test.YtponficlejjafaaDoorQ2d
import Derived.Test.YtponficlejjafaaDoorQ2e
namespace Go.Proofs.YtponficlejjafaaDoor
set_option linter.unusedSimpArgs false
set_option linter.unusedVariables false
open Go.RowKit Go.Shelf

set_option maxHeartbeats 400000 in
theorem qs_92 (w : World) : Calls Tryd.prog 40 #[.int .i32 92] w fun e w' => e = .returned (.string ⟨#[92, 92]⟩) ∧ Below w.heap.size w w' := by
  go_enter Tryd.func40, Tryd.ntmps40
  go_wp2
  go_ret
  exact ⟨rfl, Below.refl _ _⟩

set_option maxHeartbeats 400000 in
theorem qs_34 (w : World) : Calls Tryd.prog 40 #[.int .i32 34] w fun e w' => e = .returned (.string ⟨#[92, 34]⟩) ∧ Below w.heap.size w w' := by
  go_enter Tryd.func40, Tryd.ntmps40
  go_wp2
  go_ret
  exact ⟨rfl, Below.refl _ _⟩

set_option maxHeartbeats 400000 in
theorem qs_10 (w : World) : Calls Tryd.prog 40 #[.int .i32 10] w fun e w' => e = .returned (.string ⟨#[92, 110]⟩) ∧ Below w.heap.size w w' := by
  go_enter Tryd.func40, Tryd.ntmps40
  go_wp2
  go_ret
  exact ⟨rfl, Below.refl _ _⟩

set_option maxHeartbeats 400000 in
theorem qs_13 (w : World) : Calls Tryd.prog 40 #[.int .i32 13] w fun e w' => e = .returned (.string ⟨#[92, 114]⟩) ∧ Below w.heap.size w w' := by
  go_enter Tryd.func40, Tryd.ntmps40
  go_wp2
  go_ret
  exact ⟨rfl, Below.refl _ _⟩

set_option maxHeartbeats 400000 in
theorem qs_9 (w : World) : Calls Tryd.prog 40 #[.int .i32 9] w fun e w' => e = .returned (.string ⟨#[92, 116]⟩) ∧ Below w.heap.size w w' := by
  go_enter Tryd.func40, Tryd.ntmps40
  go_wp2
  go_ret
  exact ⟨rfl, Below.refl _ _⟩

set_option maxHeartbeats 400000 in
theorem qs_else (r : Int) (h0 : 32 ≤ r) (h1 : r ≠ 92) (h2 : r ≠ 34) (h3 : r ≠ 127) (w : World) : Calls Tryd.prog 40 #[.int .i32 r] w fun e w' => e = .returned (.string (Utf8.encode r)) ∧ Below w.heap.size w w' := by
  have a1 : (r == 92) = false := by simpa using h1
  have a2 : (r == 34) = false := by simpa using h2
  have a3 : (r == 10) = false := by simp; omega
  have a4 : (r == 13) = false := by simp; omega
  have a5 : (r == 9) = false := by simp; omega
  have a6 : ¬ r < 32 := by omega
  have a7 : (r == 127) = false := by simpa using h3
  go_enter Tryd.func40, Tryd.ntmps40
  go_wp2
  go_ret
  exact ⟨rfl, Below.refl _ _⟩

theorem quoted_any (r : Int) (h0 : 0 ≤ r) (w : World) (hT : Tab w) : Calls Tryd.prog 40 #[.int .i32 r] w fun e w' => e = .returned (.string ⟨(quo r).toArray⟩) ∧ Below w.heap.size w w' := by
  by_cases h1 : r = 92
  · subst h1; exact qs_92 w
  by_cases h2 : r = 34
  · subst h2; exact qs_34 w
  by_cases h3 : r = 10
  · subst h3; exact qs_10 w
  by_cases h4 : r = 13
  · subst h4; exact qs_13 w
  by_cases h5 : r = 9
  · subst h5; exact qs_9 w
  by_cases h6 : r < 32 ∨ r = 127
  · rcases ctl_cases h0 h6 h5 h3 h4 with rfl | rfl | rfl | rfl | rfl | rfl | rfl | rfl | rfl | rfl | rfl | rfl | rfl | rfl | rfl | rfl | rfl | rfl | rfl | rfl | rfl | rfl | rfl | rfl | rfl | rfl | rfl | rfl | rfl | rfl
    · exact qt_0 w hT
    · exact qt_1 w hT
    · exact qt_2 w hT
    · exact qt_3 w hT
    · exact qt_4 w hT
    · exact qt_5 w hT
    · exact qt_6 w hT
    · exact qt_7 w hT
    · exact qt_8 w hT
    · exact qt_11 w hT
    · exact qt_12 w hT
    · exact qt_14 w hT
    · exact qt_15 w hT
    · exact qt_16 w hT
    · exact qt_17 w hT
    · exact qt_18 w hT
    · exact qt_19 w hT
    · exact qt_20 w hT
    · exact qt_21 w hT
    · exact qt_22 w hT
    · exact qt_23 w hT
    · exact qt_24 w hT
    · exact qt_25 w hT
    · exact qt_26 w hT
    · exact qt_27 w hT
    · exact qt_28 w hT
    · exact qt_29 w hT
    · exact qt_30 w hT
    · exact qt_31 w hT
    · exact qt_127 w hT
  · rw [quo_else (by omega) h1 h2 (by omega), Array.toArray_toList]
    exact qs_else r (by omega) h1 h2 (by omega) w

theorem hex_any (r : Int) (h0 : 0 ≤ r) (h6 : r < 32 ∨ r = 127) (h5 : r ≠ 9) (h3 : r ≠ 10) (h4 : r ≠ 13) (w : World) : Calls Tryd.prog 42 #[.int .i64 r] w fun e w' => e = .returned (.string ⟨(hexB r.toNat).toArray⟩) ∧ w' = w := by
  rcases ctl_cases h0 h6 h5 h3 h4 with rfl | rfl | rfl | rfl | rfl | rfl | rfl | rfl | rfl | rfl | rfl | rfl | rfl | rfl | rfl | rfl | rfl | rfl | rfl | rfl | rfl | rfl | rfl | rfl | rfl | rfl | rfl | rfl | rfl | rfl
  · exact hx_0 w
  · exact hx_1 w
  · exact hx_2 w
  · exact hx_3 w
  · exact hx_4 w
  · exact hx_5 w
  · exact hx_6 w
  · exact hx_7 w
  · exact hx_8 w
  · exact hx_11 w
  · exact hx_12 w
  · exact hx_14 w
  · exact hx_15 w
  · exact hx_16 w
  · exact hx_17 w
  · exact hx_18 w
  · exact hx_19 w
  · exact hx_20 w
  · exact hx_21 w
  · exact hx_22 w
  · exact hx_23 w
  · exact hx_24 w
  · exact hx_25 w
  · exact hx_26 w
  · exact hx_27 w
  · exact hx_28 w
  · exact hx_29 w
  · exact hx_30 w
  · exact hx_31 w
  · exact hx_127 w

/-- text.Quote. -/
theorem quote_all (s : ByteArray) (w : World) (hs : s.size ≤ 4294967296) (hT : Tab w) :
    Calls Tryd.prog 26 #[.string s] w fun e w' => (∃ m, Runes (gS s) s.size m ∧ e = .returned (.string ⟨(34 :: flat quo (upto (endAt (gS s) s.size) m) ++ [34]).toArray⟩)) ∧ Below w.heap.size w w' :=
  callsIn_wide.1 (quote_inL s w hs (fun x => 0 ≤ x.2) (fun k hk => (dRune_bd hk).1) quo (fun x hx => quo_len hx) (fun x hx W hW => quoted_any x.2 hx W (hT.below hW)))
end Go.Proofs.YtponficlejjafaaDoor

/- The kinds and numbers of the table: small functions, in whatever memory. -/
import Derived.Test.YtnnpkomedpjlcaaGreatDoorT1
namespace Go.Proofs.YtnnpkomedpjlcaaGreatDoor
set_option linter.unusedSimpArgs false
set_option linter.unusedVariables false
open Go.RowKit

set_option maxRecDepth 100000 in
set_option maxHeartbeats 2000000 in
theorem isStmt_any (k : Int) (W : World) : Calls Tryz.prog 82 #[.int .i64 k] W fun e w' => e = .returned (.bool (isS k)) ∧ w' = W := by
  cases h : isS k with
  | true =>
    have h' : k ∈ stmtK := by simpa [isS] using h
    simp only [stmtK, List.mem_cons, List.not_mem_nil, or_false] at h'
    clear h
    rcases h' with rfl | rfl | rfl | rfl | rfl | rfl | rfl | rfl | rfl | rfl | rfl | rfl | rfl | rfl | rfl | rfl | rfl | rfl | rfl
    all_goals (
      go_enter Tryz.func82, Tryz.ntmps82
      go_wp2
      go_ret
      exact ⟨rfl, rfl⟩)
  | false =>
    have q0 : (k == 40) = false := by simp only [beq_eq_false_iff_ne, ne_eq]; intro e; subst e; exact absurd h (by decide)
    have q1 : (k == 41) = false := by simp only [beq_eq_false_iff_ne, ne_eq]; intro e; subst e; exact absurd h (by decide)
    have q2 : (k == 42) = false := by simp only [beq_eq_false_iff_ne, ne_eq]; intro e; subst e; exact absurd h (by decide)
    have q3 : (k == 47) = false := by simp only [beq_eq_false_iff_ne, ne_eq]; intro e; subst e; exact absurd h (by decide)
    have q4 : (k == 49) = false := by simp only [beq_eq_false_iff_ne, ne_eq]; intro e; subst e; exact absurd h (by decide)
    have q5 : (k == 51) = false := by simp only [beq_eq_false_iff_ne, ne_eq]; intro e; subst e; exact absurd h (by decide)
    have q6 : (k == 52) = false := by simp only [beq_eq_false_iff_ne, ne_eq]; intro e; subst e; exact absurd h (by decide)
    have q7 : (k == 53) = false := by simp only [beq_eq_false_iff_ne, ne_eq]; intro e; subst e; exact absurd h (by decide)
    have q8 : (k == 54) = false := by simp only [beq_eq_false_iff_ne, ne_eq]; intro e; subst e; exact absurd h (by decide)
    have q9 : (k == 55) = false := by simp only [beq_eq_false_iff_ne, ne_eq]; intro e; subst e; exact absurd h (by decide)
    have q10 : (k == 56) = false := by simp only [beq_eq_false_iff_ne, ne_eq]; intro e; subst e; exact absurd h (by decide)
    have q11 : (k == 57) = false := by simp only [beq_eq_false_iff_ne, ne_eq]; intro e; subst e; exact absurd h (by decide)
    have q12 : (k == 58) = false := by simp only [beq_eq_false_iff_ne, ne_eq]; intro e; subst e; exact absurd h (by decide)
    have q13 : (k == 59) = false := by simp only [beq_eq_false_iff_ne, ne_eq]; intro e; subst e; exact absurd h (by decide)
    have q14 : (k == 60) = false := by simp only [beq_eq_false_iff_ne, ne_eq]; intro e; subst e; exact absurd h (by decide)
    have q15 : (k == 61) = false := by simp only [beq_eq_false_iff_ne, ne_eq]; intro e; subst e; exact absurd h (by decide)
    have q16 : (k == 63) = false := by simp only [beq_eq_false_iff_ne, ne_eq]; intro e; subst e; exact absurd h (by decide)
    have q17 : (k == 64) = false := by simp only [beq_eq_false_iff_ne, ne_eq]; intro e; subst e; exact absurd h (by decide)
    have q18 : (k == 65) = false := by simp only [beq_eq_false_iff_ne, ne_eq]; intro e; subst e; exact absurd h (by decide)
    clear h
    go_enter Tryz.func82, Tryz.ntmps82
    go_wp2
    go_ret
    exact ⟨rfl, rfl⟩

set_option maxRecDepth 100000 in
set_option maxHeartbeats 1000000 in
theorem isExpr_any (k : Int) (W : World) : Calls Tryz.prog 119 #[.int .i64 k] W fun e w' => e = .returned (.bool (isE k)) ∧ w' = W := by
  by_cases h1 : 10 ≤ k
  · by_cases h2 : k ≤ 34
    · by_cases h3 : k = 21
      · subst h3
        go_enter Tryz.func119, Tryz.ntmps119
        go_wp2
        go_ret
        exact ⟨rfl, rfl⟩
      · have a1 : decide (10 ≤ k) = true := by simpa using h1
        have a2 : decide (k ≤ 34) = true := by simpa using h2
        have a3 : (k == 21) = false := by simpa using h3
        have HR : Hid (isE k = true) := by show isE k = true; simp [isE, a1, a2, a3, h1, h2, h3]
        have H3 := hide h3
        clear h3
        go_enter Tryz.func119, Tryz.ntmps119
        go_wp2
        go_ret
        rw [unhide HR]
        have h3 := unhide H3
        exact ⟨show Ending.returned (.bool (k != 21)) = _ from ret_b (by simpa using h3), rfl⟩
    · have a2 : decide (k ≤ 34) = false := by simpa using h2
      have HR : Hid (isE k = false) := by show isE k = false; simp [isE]; omega
      go_enter Tryz.func119, Tryz.ntmps119
      go_wp2
      go_ret
      rw [unhide HR]
      exact ⟨rfl, rfl⟩
  · have a2 : decide (10 ≤ k) = false := by simpa using h1
    have HR : Hid (isE k = false) := by show isE k = false; simp [isE]; omega
    go_enter Tryz.func119, Tryz.ntmps119
    go_wp2
    go_ret
    rw [unhide HR]
    exact ⟨rfl, rfl⟩

set_option maxRecDepth 100000 in
set_option maxHeartbeats 1000000 in
theorem isType_any (k : Int) (W : World) : Calls Tryz.prog 86 #[.int .i64 k] W fun e w' => e = .returned (.bool (isT k)) ∧ w' = W := by
  by_cases h1 : 80 ≤ k
  · by_cases h2 : k ≤ 87
    · by_cases h3 : k = 85
      · subst h3
        go_enter Tryz.func86, Tryz.ntmps86
        go_wp2
        go_ret
        exact ⟨rfl, rfl⟩
      · have a1 : decide (80 ≤ k) = true := by simpa using h1
        have a2 : decide (k ≤ 87) = true := by simpa using h2
        have a3 : (k == 85) = false := by simpa using h3
        have HR : Hid (isT k = true) := by show isT k = true; simp [isT, a1, a2, a3, h1, h2, h3]
        have H3 := hide h3
        clear h3
        go_enter Tryz.func86, Tryz.ntmps86
        go_wp2
        go_ret
        rw [unhide HR]
        have h3 := unhide H3
        exact ⟨show Ending.returned (.bool (k != 85)) = _ from ret_b (by simpa using h3), rfl⟩
    · have a2 : decide (k ≤ 87) = false := by simpa using h2
      have HR : Hid (isT k = false) := by show isT k = false; simp [isT]; omega
      go_enter Tryz.func86, Tryz.ntmps86
      go_wp2
      go_ret
      rw [unhide HR]
      exact ⟨rfl, rfl⟩
  · have a2 : decide (80 ≤ k) = false := by simpa using h1
    have HR : Hid (isT k = false) := by show isT k = false; simp [isT]; omega
    go_enter Tryz.func86, Tryz.ntmps86
    go_wp2
    go_ret
    rw [unhide HR]
    exact ⟨rfl, rfl⟩

set_option maxRecDepth 100000 in
set_option maxHeartbeats 1000000 in
theorem noneOrOptional_ok : IntOk 68 zo := fun W k => by
  by_cases h1 : k = 0
  · subst h1
    go_enter Tryz.func68, Tryz.ntmps68
    go_wp2
    go_ret
    exact ⟨rfl, Below.refl _ _⟩
  · have a1 : (k == 0) = false := by simpa using h1
    have HR : Hid (zo k = (k == 1)) := by show zo k = (k == 1); simp [zo, a1]
    clear h1
    go_enter Tryz.func68, Tryz.ntmps68
    go_wp2
    go_ret
    exact ⟨show Ending.returned (.bool (k == 1)) = _ from ret_b (unhide HR).symm, Below.refl _ _⟩

set_option maxRecDepth 100000 in
set_option maxHeartbeats 1000000 in
theorem letOrConst_ok : IntOk 122 zo := fun W k => by
  by_cases h1 : k = 0
  · subst h1
    go_enter Tryz.func122, Tryz.ntmps122
    go_wp2
    go_ret
    exact ⟨rfl, Below.refl _ _⟩
  · have a1 : (k == 0) = false := by simpa using h1
    have HR : Hid (zo k = (k == 1)) := by show zo k = (k == 1); simp [zo, a1]
    clear h1
    go_enter Tryz.func122, Tryz.ntmps122
    go_wp2
    go_ret
    exact ⟨show Ending.returned (.bool (k == 1)) = _ from ret_b (unhide HR).symm, Below.refl _ _⟩

set_option maxRecDepth 100000 in
set_option maxHeartbeats 1000000 in
theorem noneOrConst_ok : IntOk 130 zo := fun W k => by
  by_cases h1 : k = 0
  · subst h1
    go_enter Tryz.func130, Tryz.ntmps130
    go_wp2
    go_ret
    exact ⟨rfl, Below.refl _ _⟩
  · have a1 : (k == 0) = false := by simpa using h1
    have HR : Hid (zo k = (k == 1)) := by show zo k = (k == 1); simp [zo, a1]
    clear h1
    go_enter Tryz.func130, Tryz.ntmps130
    go_wp2
    go_ret
    exact ⟨show Ending.returned (.bool (k == 1)) = _ from ret_b (unhide HR).symm, Below.refl _ _⟩

set_option maxRecDepth 100000 in
set_option maxHeartbeats 1000000 in
theorem noneOrReadonly_ok : IntOk 127 (fun k => k == 0 || k == 4) := fun W k => by
  by_cases h1 : k = 0
  · subst h1
    go_enter Tryz.func127, Tryz.ntmps127
    go_wp2
    go_ret
    exact ⟨rfl, Below.refl _ _⟩
  · have a1 : (k == 0) = false := by simpa using h1
    have HR : Hid ((k == 0 || k == 4) = (k == 4)) := by show (k == 0 || k == 4) = (k == 4); simp [zo, a1]
    clear h1
    go_enter Tryz.func127, Tryz.ntmps127
    go_wp2
    go_ret
    exact ⟨show Ending.returned (.bool (k == 4)) = _ from ret_b (unhide HR).symm, Below.refl _ _⟩

set_option maxRecDepth 100000 in
set_option maxHeartbeats 1000000 in
theorem number_ok : IntOk 91 (fun k => decide (0 ≤ k) && decide (k ≤ 9007199254740991)) := fun W k => by
  by_cases h1 : 0 ≤ k
  · have a1 : decide (0 ≤ k) = true := by simpa using h1
    have HR : Hid ((decide (0 ≤ k) && decide (k ≤ 9007199254740991)) = decide (k ≤ 9007199254740991)) := by show (decide (0 ≤ k) && decide (k ≤ 9007199254740991)) = decide (k ≤ 9007199254740991); simp [a1]
    go_enter Tryz.func91, Tryz.ntmps91
    go_wp2
    go_ret
    exact ⟨show Ending.returned (.bool (decide (k ≤ 9007199254740991))) = _ from ret_b (unhide HR).symm, Below.refl _ _⟩
  · have a1 : decide (0 ≤ k) = false := by simpa using h1
    have HR : Hid ((decide (0 ≤ k) && decide (k ≤ 9007199254740991)) = false) := by show (decide (0 ≤ k) && decide (k ≤ 9007199254740991)) = false; rw [a1]; rfl
    go_enter Tryz.func91, Tryz.ntmps91
    go_wp2
    go_ret
    first | exact ⟨rfl, Below.refl _ _⟩ | exact ⟨show Ending.returned (.bool false) = _ from ret_b (unhide HR).symm, Below.refl _ _⟩

set_option maxRecDepth 100000 in
set_option maxHeartbeats 1000000 in
theorem signedNumber_ok : IntOk 63 (fun k => decide (-9007199254740991 ≤ k) && decide (k ≤ 9007199254740991)) := fun W k => by
  by_cases h1 : -9007199254740991 ≤ k
  · have a1 : decide (-9007199254740991 ≤ k) = true := by simpa using h1
    have HR : Hid ((decide (-9007199254740991 ≤ k) && decide (k ≤ 9007199254740991)) = decide (k ≤ 9007199254740991)) := by show (decide (-9007199254740991 ≤ k) && decide (k ≤ 9007199254740991)) = decide (k ≤ 9007199254740991); simp [a1]
    go_enter Tryz.func63, Tryz.ntmps63
    go_wp2
    go_ret
    exact ⟨show Ending.returned (.bool (decide (k ≤ 9007199254740991))) = _ from ret_b (unhide HR).symm, Below.refl _ _⟩
  · have a1 : decide (-9007199254740991 ≤ k) = false := by simpa using h1
    have HR : Hid ((decide (-9007199254740991 ≤ k) && decide (k ≤ 9007199254740991)) = false) := by show (decide (-9007199254740991 ≤ k) && decide (k ≤ 9007199254740991)) = false; rw [a1]; rfl
    go_enter Tryz.func63, Tryz.ntmps63
    go_wp2
    go_ret
    first | exact ⟨rfl, Below.refl _ _⟩ | exact ⟨show Ending.returned (.bool false) = _ from ret_b (unhide HR).symm, Below.refl _ _⟩

set_option maxRecDepth 100000 in
set_option maxHeartbeats 1000000 in
theorem marks_ok : IntOk 140 (fun k => decide (0 ≤ k) && decide (k ≤ 7)) := fun W k => by
  by_cases h1 : 0 ≤ k
  · have a1 : decide (0 ≤ k) = true := by simpa using h1
    have HR : Hid ((decide (0 ≤ k) && decide (k ≤ 7)) = decide (k ≤ 7)) := by show (decide (0 ≤ k) && decide (k ≤ 7)) = decide (k ≤ 7); simp [a1]
    go_enter Tryz.func140, Tryz.ntmps140
    go_wp2
    go_ret
    exact ⟨show Ending.returned (.bool (decide (k ≤ 7))) = _ from ret_b (unhide HR).symm, Below.refl _ _⟩
  · have a1 : decide (0 ≤ k) = false := by simpa using h1
    have HR : Hid ((decide (0 ≤ k) && decide (k ≤ 7)) = false) := by show (decide (0 ≤ k) && decide (k ≤ 7)) = false; rw [a1]; rfl
    go_enter Tryz.func140, Tryz.ntmps140
    go_wp2
    go_ret
    first | exact ⟨rfl, Below.refl _ _⟩ | exact ⟨show Ending.returned (.bool false) = _ from ret_b (unhide HR).symm, Below.refl _ _⟩
end Go.Proofs.YtnnpkomedpjlcaaGreatDoor

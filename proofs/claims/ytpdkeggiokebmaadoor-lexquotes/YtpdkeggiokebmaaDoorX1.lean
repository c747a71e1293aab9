/- lex's blanks, letters and digits, and the document's. -/
import Derived.Test.YtpdkeggiokebmaaDoorA1
namespace Go.Proofs.YtpdkeggiokebmaaDoor
set_option linter.unusedSimpArgs false
set_option linter.unusedVariables false
open Go.RowKit

def isB (c : Int) : Bool := c == 9 || c == 10 || c == 13 || c == 32
def isL (c : Int) : Bool := decide (65 ≤ c ∧ c ≤ 90) || decide (97 ≤ c ∧ c ≤ 122) || c == 95 || c == 36
def isD (c : Int) : Bool := decide (48 ≤ c ∧ c ≤ 57)

set_option maxHeartbeats 400000 in
theorem isBlank_any (c : Int) (w : World) : Calls Tryd.prog 33 #[.int .u8 c] w fun e w' => e = .returned (.bool (isB c)) ∧ w' = w := by
  by_cases h1 : c = 9
  · subst h1
    go_enter Tryd.func33, Tryd.ntmps33
    go_wp2
    go_ret
    exact ⟨rfl, rfl⟩
  by_cases h2 : c = 10
  · subst h2
    go_enter Tryd.func33, Tryd.ntmps33
    go_wp2
    go_ret
    exact ⟨rfl, rfl⟩
  by_cases h3 : c = 13
  · subst h3
    go_enter Tryd.func33, Tryd.ntmps33
    go_wp2
    go_ret
    exact ⟨rfl, rfl⟩
  by_cases h4 : c = 32
  · subst h4
    go_enter Tryd.func33, Tryd.ntmps33
    go_wp2
    go_ret
    exact ⟨rfl, rfl⟩
  have a1 : (c == 9) = false := by simpa using h1
  have a2 : (c == 10) = false := by simpa using h2
  have a3 : (c == 13) = false := by simpa using h3
  have a4 : (c == 32) = false := by simpa using h4
  have HR : Hid (isB c = false) := by show isB c = false; simp [isB, h1, h2, h3, h4]
  clear h1 h2 h3 h4
  go_enter Tryd.func33, Tryd.ntmps33
  go_wp2
  go_ret
  rw [unhide HR]
  exact ⟨rfl, rfl⟩

set_option maxHeartbeats 400000 in
theorem isDigit_any (c : Int) (w : World) : Calls Tryd.prog 50 #[.int .u8 c] w fun e w' => e = .returned (.bool (isD c)) ∧ w' = w := by
  have HR : Hid (isD c = (decide (48 ≤ c) && decide (c ≤ 57))) := by show isD c = _; simp [isD]
  by_cases h1 : 48 ≤ c
  · have a1 : decide (48 ≤ c) = true := by simpa using h1
    go_enter Tryd.func50, Tryd.ntmps50
    go_wp2
    go_ret
    rw [unhide HR, a1]
    exact ⟨rfl, rfl⟩
  · have a1 : decide (48 ≤ c) = false := by simpa using h1
    go_enter Tryd.func50, Tryd.ntmps50
    go_wp2
    go_ret
    rw [unhide HR, a1]
    exact ⟨rfl, rfl⟩
set_option maxHeartbeats 400000 in
theorem rDigit_any (c : Int) (w : World) : Calls Tryd.prog 41 #[.int .u8 c] w fun e w' => e = .returned (.bool (isD c)) ∧ w' = w := by
  have HR : Hid (isD c = (decide (48 ≤ c) && decide (c ≤ 57))) := by show isD c = _; simp [isD]
  by_cases h1 : 48 ≤ c
  · have a1 : decide (48 ≤ c) = true := by simpa using h1
    go_enter Tryd.func41, Tryd.ntmps41
    go_wp2
    go_ret
    rw [unhide HR, a1]
    exact ⟨rfl, rfl⟩
  · have a1 : decide (48 ≤ c) = false := by simpa using h1
    go_enter Tryd.func41, Tryd.ntmps41
    go_wp2
    go_ret
    rw [unhide HR, a1]
    exact ⟨rfl, rfl⟩

set_option maxHeartbeats 1000000 in
theorem isLetter_any (c : Int) (w : World) : Calls Tryd.prog 48 #[.int .u8 c] w fun e w' => e = .returned (.bool (isL c)) ∧ w' = w := by
  by_cases b1 : 65 ≤ c ∧ c ≤ 90
  · have a1 : decide (65 ≤ c) = true := by simpa using b1.1
    have a2 : decide (c ≤ 90) = true := by simpa using b1.2
    have n1 : 65 ≤ c := b1.1
    have n2 : c ≤ 90 := b1.2
    have m3 : ¬ 97 ≤ c := by omega
    have m4 : c ≤ 122 := by omega
    have HR : Hid (isL c = true) := by show isL c = true; simp [isL, b1]
    clear b1
    go_enter Tryd.func48, Tryd.ntmps48
    go_wp2
    go_ret
    rw [unhide HR]
    exact ⟨rfl, rfl⟩
  by_cases b2 : 97 ≤ c ∧ c ≤ 122
  · have a1 : decide (97 ≤ c) = true := by simpa using b2.1
    have a2 : decide (c ≤ 122) = true := by simpa using b2.2
    have n1 : 97 ≤ c := b2.1
    have n2 : c ≤ 122 := b2.2
    have n3 : 65 ≤ c := by omega
    have n4 : ¬ c ≤ 90 := by omega
    have HR : Hid (isL c = true) := by show isL c = true; simp [isL, b2]
    clear b1 b2
    go_enter Tryd.func48, Tryd.ntmps48
    go_wp2
    go_ret
    rw [unhide HR]
    exact ⟨rfl, rfl⟩
  by_cases h3 : c = 95
  · subst h3
    have HR : Hid (isL 95 = true) := by show isL 95 = true; rfl
    go_enter Tryd.func48, Tryd.ntmps48
    go_wp2
    go_ret
    rw [unhide HR]
    exact ⟨rfl, rfl⟩
  by_cases h4 : c = 36
  · subst h4
    have HR : Hid (isL 36 = true) := by show isL 36 = true; rfl
    go_enter Tryd.func48, Tryd.ntmps48
    go_wp2
    go_ret
    rw [unhide HR]
    exact ⟨rfl, rfl⟩
  have a3 : (c == 95) = false := by simpa using h3
  have a4 : (c == 36) = false := by simpa using h4
  have HR : Hid (isL c = false) := by show isL c = false; simp [isL, h3, h4]; omega
  by_cases c1 : 65 ≤ c
  · have c2 : ¬ c ≤ 90 := fun h => b1 ⟨c1, h⟩
    by_cases c3 : 97 ≤ c
    · have c4 : ¬ c ≤ 122 := fun h => b2 ⟨c3, h⟩
      clear b1 b2 h3 h4
      go_enter Tryd.func48, Tryd.ntmps48
      go_wp2
      go_ret
      rw [unhide HR]
      exact ⟨rfl, rfl⟩
    · clear b1 b2 h3 h4
      go_enter Tryd.func48, Tryd.ntmps48
      go_wp2
      go_ret
      rw [unhide HR]
      exact ⟨rfl, rfl⟩
  · have c3 : ¬ 97 ≤ c := by omega
    clear b1 b2 h3 h4
    go_enter Tryd.func48, Tryd.ntmps48
    go_wp2
    go_ret
    rw [unhide HR]
    exact ⟨rfl, rfl⟩

set_option maxHeartbeats 1000000 in
theorem rLetter_any (c : Int) (w : World) : Calls Tryd.prog 40 #[.int .u8 c] w fun e w' => e = .returned (.bool (isL c)) ∧ w' = w := by
  by_cases b1 : 65 ≤ c ∧ c ≤ 90
  · have a1 : decide (65 ≤ c) = true := by simpa using b1.1
    have a2 : decide (c ≤ 90) = true := by simpa using b1.2
    have n1 : 65 ≤ c := b1.1
    have n2 : c ≤ 90 := b1.2
    have m3 : ¬ 97 ≤ c := by omega
    have m4 : c ≤ 122 := by omega
    have HR : Hid (isL c = true) := by show isL c = true; simp [isL, b1]
    clear b1
    go_enter Tryd.func40, Tryd.ntmps40
    go_wp2
    go_ret
    rw [unhide HR]
    exact ⟨rfl, rfl⟩
  by_cases b2 : 97 ≤ c ∧ c ≤ 122
  · have a1 : decide (97 ≤ c) = true := by simpa using b2.1
    have a2 : decide (c ≤ 122) = true := by simpa using b2.2
    have n1 : 97 ≤ c := b2.1
    have n2 : c ≤ 122 := b2.2
    have n3 : 65 ≤ c := by omega
    have n4 : ¬ c ≤ 90 := by omega
    have HR : Hid (isL c = true) := by show isL c = true; simp [isL, b2]
    clear b1 b2
    go_enter Tryd.func40, Tryd.ntmps40
    go_wp2
    go_ret
    rw [unhide HR]
    exact ⟨rfl, rfl⟩
  by_cases h3 : c = 95
  · subst h3
    have HR : Hid (isL 95 = true) := by show isL 95 = true; rfl
    go_enter Tryd.func40, Tryd.ntmps40
    go_wp2
    go_ret
    rw [unhide HR]
    exact ⟨rfl, rfl⟩
  by_cases h4 : c = 36
  · subst h4
    have HR : Hid (isL 36 = true) := by show isL 36 = true; rfl
    go_enter Tryd.func40, Tryd.ntmps40
    go_wp2
    go_ret
    rw [unhide HR]
    exact ⟨rfl, rfl⟩
  have a3 : (c == 95) = false := by simpa using h3
  have a4 : (c == 36) = false := by simpa using h4
  have HR : Hid (isL c = false) := by show isL c = false; simp [isL, h3, h4]; omega
  by_cases c1 : 65 ≤ c
  · have c2 : ¬ c ≤ 90 := fun h => b1 ⟨c1, h⟩
    by_cases c3 : 97 ≤ c
    · have c4 : ¬ c ≤ 122 := fun h => b2 ⟨c3, h⟩
      clear b1 b2 h3 h4
      go_enter Tryd.func40, Tryd.ntmps40
      go_wp2
      go_ret
      rw [unhide HR]
      exact ⟨rfl, rfl⟩
    · clear b1 b2 h3 h4
      go_enter Tryd.func40, Tryd.ntmps40
      go_wp2
      go_ret
      rw [unhide HR]
      exact ⟨rfl, rfl⟩
  · have c3 : ¬ 97 ≤ c := by omega
    clear b1 b2 h3 h4
    go_enter Tryd.func40, Tryd.ntmps40
    go_wp2
    go_ret
    rw [unhide HR]
    exact ⟨rfl, rfl⟩

end Go.Proofs.YtpdkeggiokebmaaDoor

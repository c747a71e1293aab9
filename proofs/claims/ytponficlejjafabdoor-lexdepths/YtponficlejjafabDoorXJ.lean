/- lex.turn and the reference's Turn, in whatever memory. -/
import Derived.Test.YtponficlejjafabDoorXG
namespace Go.Proofs.YtponficlejjafabDoor
set_option linter.unusedSimpArgs false
set_option linter.unusedVariables false
open Go.RowKit Go.Shelf

/-- What a token adds to the count of open brackets. -/
def tn (k : Int) (s : ByteArray) : Int :=
  if k = 6 then 1 else if k = 8 then -1 else if k = 9 then (if s = ⟨#[40]⟩ ∨ s = ⟨#[91]⟩ ∨ s = ⟨#[123]⟩ then 1 else if s = ⟨#[41]⟩ ∨ s = ⟨#[93]⟩ ∨ s = ⟨#[125]⟩ then -1 else 0) else 0
theorem tn_le (k : Int) (s : ByteArray) : -1 ≤ tn k s ∧ tn k s ≤ 1 := by unfold tn; split <;> (try split) <;> (try split) <;> (try split) <;> (try split) <;> decide
theorem ne_list {s : ByteArray} {c : UInt8} (h : ¬ s = ⟨#[c]⟩) : (s.toList == [c]) = false := by
  rw [ba_toList]
  simp only [beq_eq_false_iff_ne, ne_eq]
  intro e
  apply h
  apply ByteArray.ext
  apply Array.toList_inj.1
  simpa using e
theorem tn_cases (k : Int) (s : ByteArray) : (k = 6 ∧ tn k s = 1) ∨ (k = 8 ∧ tn k s = -1) ∨ (k = 9 ∧ s = ⟨#[40]⟩ ∧ tn k s = 1) ∨ (k = 9 ∧ s = ⟨#[91]⟩ ∧ tn k s = 1) ∨ (k = 9 ∧ s = ⟨#[123]⟩ ∧ tn k s = 1) ∨ (k = 9 ∧ s = ⟨#[41]⟩ ∧ tn k s = -1) ∨ (k = 9 ∧ s = ⟨#[93]⟩ ∧ tn k s = -1) ∨ (k = 9 ∧ s = ⟨#[125]⟩ ∧ tn k s = -1) ∨
    (k = 9 ∧ (s.toList == [40]) = false ∧ (s.toList == [91]) = false ∧ (s.toList == [123]) = false ∧ (s.toList == [41]) = false ∧ (s.toList == [93]) = false ∧ (s.toList == [125]) = false ∧ tn k s = 0) ∨ ((k == 6) = false ∧ (k == 8) = false ∧ (k == 9) = false ∧ tn k s = 0) := by
  by_cases h6 : k = 6
  · exact .inl ⟨h6, by simp [tn, h6]⟩
  by_cases h8 : k = 8
  · exact .inr (.inl ⟨h8, by simp [tn, h8]⟩)
  by_cases h9 : k = 9
  · refine .inr (.inr ?_)
    subst h9
    by_cases s1 : s = ⟨#[40]⟩
    · exact .inl ⟨rfl, s1, by simp [tn, s1]⟩
    by_cases s2 : s = ⟨#[91]⟩
    · exact .inr (.inl ⟨rfl, s2, by simp [tn, s2]⟩)
    by_cases s3 : s = ⟨#[123]⟩
    · exact .inr (.inr (.inl ⟨rfl, s3, by simp [tn, s3]⟩))
    by_cases s4 : s = ⟨#[41]⟩
    · exact .inr (.inr (.inr (.inl ⟨rfl, s4, by subst s4; simp [tn]⟩)))
    by_cases s5 : s = ⟨#[93]⟩
    · exact .inr (.inr (.inr (.inr (.inl ⟨rfl, s5, by subst s5; simp [tn]⟩))))
    by_cases s6 : s = ⟨#[125]⟩
    · exact .inr (.inr (.inr (.inr (.inr (.inl ⟨rfl, s6, by subst s6; simp [tn]⟩)))))
    exact .inr (.inr (.inr (.inr (.inr (.inr (.inl ⟨rfl, ne_list s1, ne_list s2, ne_list s3, ne_list s4, ne_list s5, ne_list s6, by simp [tn, s1, s2, s3, s4, s5, s6]⟩))))))
  · exact .inr (.inr (.inr (.inr (.inr (.inr (.inr (.inr (.inr ⟨by simpa using h6, by simpa using h8, by simpa using h9, by simp [tn, h6, h8, h9]⟩))))))))

set_option maxRecDepth 100000 in
set_option maxHeartbeats 1000000 in
theorem turn37_any (k a b : Int) (s : ByteArray) (w : World) : Calls Tryd.prog 37 #[.agg #[.int .i64 k, .string s, .int .i64 a, .int .i64 b]] w fun e w' => e = .returned (.int .i64 (tn k s)) ∧ Below w.heap.size w w' := by
  have hB : ∀ k' s', Below w.heap.size w (w.alloc (.cells #[.int .i64 k', .string s', .int .i64 a, .int .i64 b] 37)) := fun k' s' => (Below.refl _ w).alloc (Nat.le_refl _) _
  rcases tn_cases k s with ⟨rfl, ht⟩ | ⟨rfl, ht⟩ | ⟨rfl, rfl, ht⟩ | ⟨rfl, rfl, ht⟩ | ⟨rfl, rfl, ht⟩ | ⟨rfl, rfl, ht⟩ | ⟨rfl, rfl, ht⟩ | ⟨rfl, rfl, ht⟩ | ⟨rfl, q1, q2, q3, q4, q5, q6, ht⟩ | ⟨q1, q2, q3, ht⟩ <;> rw [ht] <;> clear ht
  all_goals (
    go_enter Tryd.func37, Tryd.ntmps37
    go_wp2
    go_ret
    exact ⟨rfl, hB _ _⟩)

set_option maxRecDepth 100000 in
set_option maxHeartbeats 1000000 in
theorem turn38_any (k a b : Int) (s : ByteArray) (w : World) : Calls Tryd.prog 38 #[.agg #[.int .i64 k, .string s, .int .i64 a, .int .i64 b]] w fun e w' => e = .returned (.int .i64 (tn k s)) ∧ Below w.heap.size w w' := by
  have hB : ∀ k' s', Below w.heap.size w (w.alloc (.cells #[.int .i64 k', .string s', .int .i64 a, .int .i64 b] 37)) := fun k' s' => (Below.refl _ w).alloc (Nat.le_refl _) _
  rcases tn_cases k s with ⟨rfl, ht⟩ | ⟨rfl, ht⟩ | ⟨rfl, rfl, ht⟩ | ⟨rfl, rfl, ht⟩ | ⟨rfl, rfl, ht⟩ | ⟨rfl, rfl, ht⟩ | ⟨rfl, rfl, ht⟩ | ⟨rfl, rfl, ht⟩ | ⟨rfl, q1, q2, q3, q4, q5, q6, ht⟩ | ⟨q1, q2, q3, ht⟩ <;> rw [ht] <;> clear ht
  all_goals (
    go_enter Tryd.func38, Tryd.ntmps38
    go_wp2
    go_ret
    exact ⟨rfl, hB _ _⟩)

end Go.Proofs.YtponficlejjafabDoor

/- Values settled twice. -/
import Derived.Test.YthjlhdldomfikabDoorVA
import Derived.Test.YthjlhdldomfikabDoorV5
namespace Go.Proofs.YthjlhdldomfikabDoor
set_option linter.unusedSimpArgs false
set_option linter.unusedVariables false
set_option maxRecDepth 100000
open Go.RowKit Go.Shelf

theorem stlK_in (k : Int) : 0 ≤ stlK k ∧ stlK k ≤ 5 := by unfold stlK; split <;> omega
theorem stlK_id (k : Int) : stlK (stlK k) = stlK k := by unfold stlK; split <;> simp_all
theorem clamp_of (n : Int) (h : -9007199254740991 ≤ n ∧ n ≤ 9007199254740991) : clampN n = n := by
  obtain ⟨h1, h2⟩ := h
  unfold clampN
  have h3 : ¬ n < -9007199254740991 := by omega
  have h4 : ¬ 9007199254740991 < n := by omega
  simp only [h3, h4, if_false]
theorem clamp_id (n : Int) : clampN (clampN n) = clampN n := by
  exact clamp_of _ (clamp_in n)
theorem stlN_id (k n : Int) : stlN (stlK k) (stlN k n) = stlN k n := by
  by_cases h : k = 1 ∨ k = 2 ∨ k = 3 ∨ k = 4 ∨ k = 5
  · rcases h with rfl | rfl | rfl | rfl | rfl
    · rfl
    · show bI (bI (n != 0) != 0) = bI (n != 0)
      cases n != 0 <;> rfl
    · have e1 : stlK 3 = 3 := rfl
      have e2 : stlN 3 n = clampN n := by simp [stlN]
      have e3 : stlN 3 (clampN n) = clampN (clampN n) := by simp [stlN]
      rw [e1, e2, e3, clamp_id]
    · rfl
    · rfl
  · have : stlK k = 0 := by unfold stlK; rw [if_neg h]
    rw [this]
    have h' : stlN k n = 0 := by unfold stlN; rw [if_neg (by omega), if_neg (by omega), if_neg (by omega)]
    rw [h']
    rfl
theorem stlT_id (k : Int) (t : ByteArray) : stlT (stlK k) (stlT k t) = stlT k t := by
  by_cases h : k = 4
  · subst h; rfl
  · have : stlT k t = ByteArray.empty := by unfold stlT; rw [if_neg h]
    rw [this]
    unfold stlT
    split <;> rfl
theorem stl_num {k : Int} (h : stlK k = 3) (n : Int) : -9007199254740991 ≤ stlN k n ∧ stlN k n ≤ 9007199254740991 := by
  have hk : k = 3 := by unfold stlK at h; split at h <;> omega
  subst hk
  have e2 : stlN 3 n = clampN n := by simp [stlN]
  rw [e2]
  exact clamp_in n
/-- A value is laid in a new box. -/
theorem new_box (w : World) (k n : Int) (t : ByteArray) : ∃ W3, w.alloc (.cells #[.int .i64 k, .int .i64 n, .string t] 25) = W3 ∧ Bv W3 w.heap.size k n t ∧ Below w.heap.size w W3 ∧ W3.heap.size = w.heap.size + 1 :=
  ⟨_, rfl, Bx.new w _ _, below_one _ _, by simp⟩
end Go.Proofs.YthjlhdldomfikabDoor

/- The reference's Unary is the program's. -/
import Derived.Test.YthjlhdldomfikaaDoorVA
import Derived.Test.YthjlhdldomfikaaDoorV8
namespace Go.Proofs.YthjlhdldomfikaaDoor
set_option linter.unusedSimpArgs false
set_option linter.unusedVariables false
set_option maxRecDepth 100000
open Go.RowKit Go.Shelf

theorem stlK_in (k : Int) : 0 ≤ stlK k ∧ stlK k ≤ 5 := by unfold stlK; split <;> omega
theorem stlK_id (k : Int) : stlK (stlK k) = stlK k := by unfold stlK; split <;> simp_all
theorem clamp_of (n : Int) (h : -9007199254740991 ≤ n ∧ n ≤ 9007199254740991) : clampN n = n := by
  obtain ⟨h1, h2⟩ := h
  unfold clampN
  have h3 : ¬ n < -9007199254740991 := by omega
  have h4 : ¬ 9007199254740991 < n := by omega
  simp only [h3, h4, if_false]
theorem clamp_id (n : Int) : clampN (clampN n) = clampN n := by
  exact clamp_of _ (clamp_in n)
theorem stlN_id (k n : Int) : stlN (stlK k) (stlN k n) = stlN k n := by
  by_cases h : k = 1 ∨ k = 2 ∨ k = 3 ∨ k = 4 ∨ k = 5
  · rcases h with rfl | rfl | rfl | rfl | rfl
    · rfl
    · show bI (bI (n != 0) != 0) = bI (n != 0)
      cases n != 0 <;> rfl
    · have e1 : stlK 3 = 3 := rfl
      have e2 : stlN 3 n = clampN n := by simp [stlN]
      have e3 : stlN 3 (clampN n) = clampN (clampN n) := by simp [stlN]
      rw [e1, e2, e3, clamp_id]
    · rfl
    · rfl
  · have : stlK k = 0 := by unfold stlK; rw [if_neg h]
    rw [this]
    have h' : stlN k n = 0 := by unfold stlN; rw [if_neg (by omega), if_neg (by omega), if_neg (by omega)]
    rw [h']
    rfl
theorem stlT_id (k : Int) (t : ByteArray) : stlT (stlK k) (stlT k t) = stlT k t := by
  by_cases h : k = 4
  · subst h; rfl
  · have : stlT k t = ByteArray.empty := by unfold stlT; rw [if_neg h]
    rw [this]
    unfold stlT
    split <;> rfl
theorem stl_num {k : Int} (h : stlK k = 3) (n : Int) : -9007199254740991 ≤ stlN k n ∧ stlN k n ≤ 9007199254740991 := by
  have hk : k = 3 := by unfold stlK at h; split at h <;> omega
  subst hk
  have e2 : stlN 3 n = clampN n := by simp [stlN]
  rw [e2]
  exact clamp_in n
theorem rUnary_any (op : ByteArray) (k n : Int) (t : ByteArray) : Ret 11 #[.string op, .agg (Vc k n t)] (unP op (stlK k) (stlN k n) (stlT k t)).oc := by
  have H : Ret 26 #[.agg (Vc k n t)] (.agg (Vc (stlK k) (stlN k n) (stlT k t))) := rSane_any k n t
  have H2 : Ret 26 #[.agg (Vc (stlK k) (stlN k n) (stlT k t))] (.agg (Vc (stlK k) (stlN k n) (stlT k t))) := by
    have := rSane_any (stlK k) (stlN k n) (stlT k t)
    unfold Sv at this
    rw [stlK_id, stlN_id, stlT_id] at this
    exact this
  have hcl : stlK k = 3 → -9007199254740991 ≤ stlN k n ∧ stlN k n ≤ 9007199254740991 := fun h => stl_num h n
  have hk0 := stlK_in k
  obtain ⟨k', hk⟩ : ∃ k', stlK k = k' := ⟨_, rfl⟩
  obtain ⟨n', hn⟩ : ∃ k', stlN k n = k' := ⟨_, rfl⟩
  obtain ⟨t', ht⟩ : ∃ k', stlT k t = k' := ⟨_, rfl⟩
  rw [hk, hn] at hcl
  rw [hk] at hk0
  rw [hk, hn, ht] at H H2 ⊢
  unfold unP
  by_cases h1 : op = ⟨#[33]⟩
  · rw [if_pos h1, h1]
    exact run_not _ k n k' n' t t' H (rTruth_any k' n' t' hk0 _ _ _ H2)
  rw [if_neg h1]
  by_cases h2 : op = ⟨#[45]⟩
  · rw [if_pos h2, h2]
    by_cases h3 : k' = 3
    · subst h3
      rw [if_pos rfl]
      exact run_neg k n n' t t' H (hcl rfl)
    · rw [if_neg h3]
      exact run_neg_no k n k' n' t t' H (by simp [h3])
  rw [if_neg h2]
  by_cases h4 : op = ⟨#[126]⟩
  · rw [if_pos h4, h4]
    by_cases h3 : k' = 3
    · subst h3
      rw [if_pos rfl]
      have := run_inv k n n' t t' H _ _ rfl rfl
      rw [← turn_eq] at this
      exact this
    · rw [if_neg h3]
      exact run_inv_no k n k' n' t t' H (by simp [h3])
  rw [if_neg h4]
  exact run_other op k n k' n' t t' H (op_ne h1) (op_ne h2) (op_ne h4)
end Go.Proofs.YthjlhdldomfikaaDoor

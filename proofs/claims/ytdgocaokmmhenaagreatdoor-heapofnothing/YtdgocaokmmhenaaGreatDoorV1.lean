/- value.boolean, value.settled, and what is answered with no fault. -/
import Derived.Test.YtdgocaokmmhenaaGreatDoorV0c
namespace Go.Proofs.YtdgocaokmmhenaaGreatDoor
set_option linter.unusedSimpArgs false
set_option linter.unusedVariables false
set_option maxRecDepth 100000
open Go.RowKit

theorem vboolean_any (b : Bool) : Ret 78 #[.bool b] (.agg (Vc 2 (bI b) ByteArray.empty)) := by
  intro W
  cases b
  all_goals
    go_enter Tryz.func78, Tryz.ntmps78
    go_wp2
    refine bodyPost_ret (by simp [results, Tryz.results78, go_sem]; rfl) rfl ⟨rfl, below_two _ _ _⟩
def Sv (k n : Int) (t : ByteArray) : Value := .agg (Vc (stlK k) (stlN k n) (stlT k t))
theorem vsettled_2 (n : Int) (t : ByteArray) (b : Bool) (hn : (n != 0) = b) : Ret 70 #[.agg (Vc 2 n t)] (.agg (Vc 2 (bI b) ByteArray.empty)) := by
  intro W
  unfold Vc
  obtain ⟨W2, hW2, b1, b2, hb, hz⟩ := two_boxes W 2 n t
  obtain ⟨c0, c1, c2, f0, f1, f2, lt⟩ := b1.all
  have B1 := hide b1
  have B2 := hide b2
  have HB := hide hb
  have HZ := hide hz
  clear b1 b2 hb hz
  go_enter Tryz.func70, Tryz.ntmps70
  go_wp2_with (go_at_call 78; refine (vboolean_any _ _).mono ?_; rintro e w1 ⟨rfl, hb'⟩; unfold Vc; have hz := unhide HZ; have E2 := hide ((unhide B2).below hb' (by omega)); obtain ⟨d0, d1, d2, g0, g1, g2, lt'⟩ := (unhide E2).all)
  exact ret_v Tryz.results70 rfl (unhide E2) rfl ((unhide HB).trans (hb'.mono (by omega))) (by omega) rfl
theorem vsettled_none {k n : Int} {t : ByteArray} (h : k ≠ 1 ∧ k ≠ 2 ∧ k ≠ 3 ∧ k ≠ 4 ∧ k ≠ 5) : Ret 70 #[.agg (Vc k n t)] (.agg (Vc 0 0 ByteArray.empty)) := by
  intro W
  obtain ⟨h1, h2, h3, h4, h5⟩ := h
  have e1 : (k == 1) = false := by simp [h1]
  have e2 : (k == 2) = false := by simp [h2]
  have e3 : (k == 3) = false := by simp [h3]
  have e4 : (k == 4) = false := by simp [h4]
  have e5 : (k == 5) = false := by simp [h5]
  clear h1 h2 h3 h4 h5
  unfold Vc
  go_enter Tryz.func70, Tryz.ntmps70
  go_wp2
  refine bodyPost_ret (by simp [results, Tryz.results70, go_sem]; rfl) rfl ⟨rfl, below_two _ _ _⟩
theorem vsettled_1 (n : Int) (t : ByteArray) : Ret 70 #[.agg (Vc 1 n t)] (.agg (Vc 1 0 ByteArray.empty)) := by
  intro W
  unfold Vc
  go_enter Tryz.func70, Tryz.ntmps70
  go_wp2
  refine bodyPost_ret (by simp [results, Tryz.results70, go_sem]; rfl) rfl ⟨rfl, below_two _ _ _⟩
theorem vsettled_4 (n : Int) (t : ByteArray) : Ret 70 #[.agg (Vc 4 n t)] (.agg (Vc 4 0 t)) := by
  intro W
  unfold Vc
  go_enter Tryz.func70, Tryz.ntmps70
  go_wp2
  refine bodyPost_ret (by first | (simp [results, Tryz.results70, go_sem]; done) | (simp [results, Tryz.results70, go_sem]; rfl)) rfl ⟨rfl, below_two _ _ _⟩
theorem vsettled_5 (n : Int) (t : ByteArray) : Ret 70 #[.agg (Vc 5 n t)] (.agg (Vc 5 n ByteArray.empty)) := by
  intro W
  unfold Vc
  go_enter Tryz.func70, Tryz.ntmps70
  go_wp2
  refine bodyPost_ret (by simp [results, Tryz.results70, go_sem]; rfl) rfl ⟨rfl, below_two _ _ _⟩
theorem vsettled3_ (n : Int) (t : ByteArray) : Ret 70 #[.agg (Vc 3 n t)] (.agg (Vc 3 (clampN n) ByteArray.empty)) := by
  intro W
  unfold Vc clampN
  by_cases h1 : n < -9007199254740991
  · rw [if_pos h1]
    go_enter Tryz.func70, Tryz.ntmps70
    go_wp2
    refine bodyPost_ret (by simp [results, Tryz.results70, go_sem]; rfl) rfl ⟨rfl, below_two _ _ _⟩
  · rw [if_neg h1]
    by_cases h2 : 9007199254740991 < n
    · rw [if_pos h2]
      go_enter Tryz.func70, Tryz.ntmps70
      go_wp2
      refine bodyPost_ret (by simp [results, Tryz.results70, go_sem]; rfl) rfl ⟨rfl, below_two _ _ _⟩
    · rw [if_neg h2]
      go_enter Tryz.func70, Tryz.ntmps70
      go_wp2
      refine bodyPost_ret (by simp [results, Tryz.results70, go_sem]; rfl) rfl ⟨rfl, below_two _ _ _⟩
theorem vsettled_any (k n : Int) (t : ByteArray) : Ret 70 #[.agg (Vc k n t)] (Sv k n t) := by
  by_cases h : k ≠ 1 ∧ k ≠ 2 ∧ k ≠ 3 ∧ k ≠ 4 ∧ k ≠ 5
  · have := vsettled_none (n := n) (t := t) h
    obtain ⟨h1, h2, h3, h4, h5⟩ := h
    simpa [Sv, stlK, stlN, stlT, h1, h2, h3, h4, h5] using this
  · have h' : k = 1 ∨ k = 2 ∨ k = 3 ∨ k = 4 ∨ k = 5 := by omega
    rcases h' with rfl | rfl | rfl | rfl | rfl
    · simpa [Sv, stlK, stlN, stlT] using vsettled_1 n t
    · simpa [Sv, stlK, stlN, stlT] using vsettled_2 n t _ rfl
    · simpa [Sv, stlK, stlN, stlT] using vsettled3_ n t
    · simpa [Sv, stlK, stlN, stlT] using vsettled_4 n t
    · simpa [Sv, stlK, stlN, stlT] using vsettled_5 n t
end Go.Proofs.YtdgocaokmmhenaaGreatDoor

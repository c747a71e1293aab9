/- The reference: Bool, Number, String, Throw, Sane, Truth, signed, low. -/
import Derived.Test.YtdgocaokmmhenaaGreatDoorV2
namespace Go.Proofs.YtdgocaokmmhenaaGreatDoor
set_option linter.unusedSimpArgs false
set_option linter.unusedVariables false
set_option maxRecDepth 100000
open Go.RowKit Go.Shelf

/-- The cells of what the reference answers. -/
def Oc (k n : Int) (t s : ByteArray) (f : Int) : Array Value := #[.int .i64 k, .int .i64 n, .string t, .string s, .int .i64 f]
theorem rBool_any (b : Bool) : Ret 79 #[.bool b] (.agg (Vc 2 (bI b) ByteArray.empty)) := by
  intro W
  cases b
  all_goals
    go_enter Tryz.func79, Tryz.ntmps79
    go_wp2
    refine bodyPost_ret (by simp [results, Tryz.results79, go_sem]; rfl) rfl ⟨rfl, below_one _ _⟩
theorem rNumber_any (n : Int) : Ret 51 #[.int .i64 n] (.agg (Vc 3 n ByteArray.empty)) := by
  intro W
  go_enter Tryz.func51, Tryz.ntmps51
  go_wp2
  refine bodyPost_ret (by simp [results, Tryz.results51, go_sem]; rfl) rfl ⟨rfl, below_one _ _⟩
theorem rString_any (s : ByteArray) : Ret 59 #[.string s] (.agg (Vc 4 0 s)) := by
  intro W
  unfold Vc
  go_enter Tryz.func59, Tryz.ntmps59
  go_wp2
  refine bodyPost_ret (by first | (simp [results, Tryz.results59, go_sem]; done) | (simp [results, Tryz.results59, go_sem]; rfl)) rfl ⟨rfl, below_one _ _⟩
theorem rThrow_any (s : ByteArray) : Ret 50 #[.string s] (.agg (Oc 0 0 ByteArray.empty s 1)) := by
  intro W
  go_enter Tryz.func50, Tryz.ntmps50
  go_wp2
  refine bodyPost_ret (by first | (simp [results, Tryz.results50, go_sem]; done) | (simp [results, Tryz.results50, go_sem]; rfl)) rfl ⟨rfl, below_one _ _⟩
theorem rSane_2 (n : Int) (t : ByteArray) (b : Bool) (hn : (n != 0) = b) : Ret 72 #[.agg (Vc 2 n t)] (.agg (Vc 2 (bI b) ByteArray.empty)) := by
  intro W
  unfold Vc
  obtain ⟨W2, hW2, b1, b2, hb, hz⟩ := two_boxes W 2 n t
  obtain ⟨c0, c1, c2, f0, f1, f2, lt⟩ := b1.all
  have B1 := hide b1
  have B2 := hide b2
  have HB := hide hb
  have HZ := hide hz
  clear b1 b2 hb hz
  go_enter Tryz.func72, Tryz.ntmps72
  go_wp2_with (go_at_call 79; refine (rBool_any _ _).mono ?_; rintro e w1 ⟨rfl, hb'⟩; unfold Vc; have hz := unhide HZ; have E2 := hide ((unhide B2).below hb' (by omega)); obtain ⟨d0, d1, d2, g0, g1, g2, lt'⟩ := (unhide E2).all)
  exact ret_v Tryz.results72 rfl (unhide E2) rfl ((unhide HB).trans (hb'.mono (by omega))) (by omega) rfl
theorem rSane_4 (n : Int) (t : ByteArray) : Ret 72 #[.agg (Vc 4 n t)] (.agg (Vc 4 0 t)) := by
  intro W
  unfold Vc
  obtain ⟨W2, hW2, b1, b2, hb, hz⟩ := two_boxes W 4 n t
  obtain ⟨c0, c1, c2, f0, f1, f2, lt⟩ := b1.all
  have B1 := hide b1
  have B2 := hide b2
  have HB := hide hb
  have HZ := hide hz
  clear b1 b2 hb hz
  go_enter Tryz.func72, Tryz.ntmps72
  go_wp2_with (go_at_call 59; refine (rString_any _ _).mono ?_; rintro e w1 ⟨rfl, hb'⟩; unfold Vc; have hz := unhide HZ; have E2 := hide ((unhide B2).below hb' (by omega)); obtain ⟨d0, d1, d2, g0, g1, g2, lt'⟩ := (unhide E2).all)
  exact ret_v Tryz.results72 rfl (unhide E2) rfl ((unhide HB).trans (hb'.mono (by omega))) (by omega) rfl
theorem rSane_none {k n : Int} {t : ByteArray} (h : k ≠ 1 ∧ k ≠ 2 ∧ k ≠ 3 ∧ k ≠ 4 ∧ k ≠ 5) : Ret 72 #[.agg (Vc k n t)] (.agg (Vc 0 0 ByteArray.empty)) := by
  intro W
  obtain ⟨h1, h2, h3, h4, h5⟩ := h
  have e1 : (k == 1) = false := by simp [h1]
  have e2 : (k == 2) = false := by simp [h2]
  have e3 : (k == 3) = false := by simp [h3]
  have e4 : (k == 4) = false := by simp [h4]
  have e5 : (k == 5) = false := by simp [h5]
  clear h1 h2 h3 h4 h5
  by_cases h0 : k = 0
  · subst h0
    unfold Vc
    go_enter Tryz.func72, Tryz.ntmps72
    go_wp2
    refine bodyPost_ret (by simp [results, Tryz.results72, go_sem]; rfl) rfl ⟨rfl, below_two _ _ _⟩
  · have e0 : (k == 0) = false := by simp [h0]
    clear h0
    unfold Vc
    go_enter Tryz.func72, Tryz.ntmps72
    go_wp2
    refine bodyPost_ret (by simp [results, Tryz.results72, go_sem]; rfl) rfl ⟨rfl, below_two _ _ _⟩
theorem rSane_1 (n : Int) (t : ByteArray) : Ret 72 #[.agg (Vc 1 n t)] (.agg (Vc 1 0 ByteArray.empty)) := by
  intro W
  unfold Vc
  go_enter Tryz.func72, Tryz.ntmps72
  go_wp2
  refine bodyPost_ret (by simp [results, Tryz.results72, go_sem]; rfl) rfl ⟨rfl, below_two _ _ _⟩
theorem rSane_5 (n : Int) (t : ByteArray) : Ret 72 #[.agg (Vc 5 n t)] (.agg (Vc 5 n ByteArray.empty)) := by
  intro W
  unfold Vc
  go_enter Tryz.func72, Tryz.ntmps72
  go_wp2
  refine bodyPost_ret (by simp [results, Tryz.results72, go_sem]; rfl) rfl ⟨rfl, below_two _ _ _⟩
theorem rSane_3 (n : Int) (t : ByteArray) : Ret 72 #[.agg (Vc 3 n t)] (.agg (Vc 3 (clampN n) ByteArray.empty)) := by
  intro W
  unfold Vc
  obtain ⟨W2, hW2, b1, b2, hb, hz⟩ := two_boxes W 3 n t
  obtain ⟨c0, c1, c2, f0, f1, f2, lt⟩ := b1.all
  have B1 := hide b1
  have B2 := hide b2
  have HB := hide hb
  have HZ := hide hz
  clear b1 b2 hb hz
  unfold clampN
  by_cases h1 : n < -9007199254740991
  · rw [if_pos h1]
    go_enter Tryz.func72, Tryz.ntmps72
    go_wp2_with (go_at_call 51; refine (rNumber_any _ _).mono ?_; rintro e w1 ⟨rfl, hb'⟩; unfold Vc; have hz := unhide HZ; have E2 := hide ((unhide B2).below hb' (by omega)); obtain ⟨d0, d1, d2, g0, g1, g2, lt'⟩ := (unhide E2).all)
    exact ret_v Tryz.results72 rfl (unhide E2) rfl ((unhide HB).trans (hb'.mono (by omega))) (by omega) rfl
  · rw [if_neg h1]
    by_cases h2 : 9007199254740991 < n
    · rw [if_pos h2]
      go_enter Tryz.func72, Tryz.ntmps72
      go_wp2_with (go_at_call 51; refine (rNumber_any _ _).mono ?_; rintro e w1 ⟨rfl, hb'⟩; unfold Vc; have hz := unhide HZ; have E2 := hide ((unhide B2).below hb' (by omega)); obtain ⟨d0, d1, d2, g0, g1, g2, lt'⟩ := (unhide E2).all)
      exact ret_v Tryz.results72 rfl (unhide E2) rfl ((unhide HB).trans (hb'.mono (by omega))) (by omega) rfl
    · rw [if_neg h2]
      go_enter Tryz.func72, Tryz.ntmps72
      go_wp2_with (go_at_call 51; refine (rNumber_any _ _).mono ?_; rintro e w1 ⟨rfl, hb'⟩; unfold Vc; have hz := unhide HZ; have E2 := hide ((unhide B2).below hb' (by omega)); obtain ⟨d0, d1, d2, g0, g1, g2, lt'⟩ := (unhide E2).all)
      exact ret_v Tryz.results72 rfl (unhide E2) rfl ((unhide HB).trans (hb'.mono (by omega))) (by omega) rfl
theorem rSane_any (k n : Int) (t : ByteArray) : Ret 72 #[.agg (Vc k n t)] (Sv k n t) := by
  by_cases h : k ≠ 1 ∧ k ≠ 2 ∧ k ≠ 3 ∧ k ≠ 4 ∧ k ≠ 5
  · have := rSane_none (n := n) (t := t) h
    obtain ⟨h1, h2, h3, h4, h5⟩ := h
    simpa [Sv, stlK, stlN, stlT, h1, h2, h3, h4, h5] using this
  · have h' : k = 1 ∨ k = 2 ∨ k = 3 ∨ k = 4 ∨ k = 5 := by omega
    rcases h' with rfl | rfl | rfl | rfl | rfl
    · simpa [Sv, stlK, stlN, stlT] using rSane_1 n t
    · simpa [Sv, stlK, stlN, stlT] using rSane_2 n t _ rfl
    · simpa [Sv, stlK, stlN, stlT] using rSane_3 n t
    · simpa [Sv, stlK, stlN, stlT] using rSane_4 n t
    · simpa [Sv, stlK, stlN, stlT] using rSane_5 n t
end Go.Proofs.YtdgocaokmmhenaaGreatDoor

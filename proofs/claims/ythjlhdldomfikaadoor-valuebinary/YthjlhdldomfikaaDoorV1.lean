/- value.boolean, value.settled, and what is answered with no fault. -/
import Derived.Test.YthjlhdldomfikaaDoorV0c
namespace Go.Proofs.YthjlhdldomfikaaDoor
set_option linter.unusedSimpArgs false
set_option linter.unusedVariables false
set_option maxRecDepth 100000
open Go.RowKit

theorem boolean_any (b : Bool) : Ret 56 #[.bool b] (.agg (Vc 2 (bI b) ByteArray.empty)) := by
  intro W
  cases b
  all_goals
    go_enter Tryd.func56, Tryd.ntmps56
    go_wp2
    refine bodyPost_ret (by simp [results, Tryd.results56, go_sem]; rfl) rfl ⟨rfl, below_two _ _ _⟩
def Sv (k n : Int) (t : ByteArray) : Value := .agg (Vc (stlK k) (stlN k n) (stlT k t))
theorem settled_2 (n : Int) (t : ByteArray) (b : Bool) (hn : (n != 0) = b) : Ret 20 #[.agg (Vc 2 n t)] (.agg (Vc 2 (bI b) ByteArray.empty)) := by
  intro W
  unfold Vc
  obtain ⟨W2, hW2, b1, b2, hb, hz⟩ := two_boxes W 2 n t
  obtain ⟨c0, c1, c2, f0, f1, f2, lt⟩ := b1.all
  have B1 := hide b1
  have B2 := hide b2
  have HB := hide hb
  have HZ := hide hz
  clear b1 b2 hb hz
  go_enter Tryd.func20, Tryd.ntmps20
  go_wp2_with (go_at_call 56; refine (boolean_any _ _).mono ?_; rintro e w1 ⟨rfl, hb'⟩; unfold Vc; have hz := unhide HZ; have E2 := hide ((unhide B2).below hb' (by omega)); obtain ⟨d0, d1, d2, g0, g1, g2, lt'⟩ := (unhide E2).all)
  exact ret_v Tryd.results20 rfl (unhide E2) rfl ((unhide HB).trans (hb'.mono (by omega))) (by omega) rfl
theorem settled_none {k n : Int} {t : ByteArray} (h : k ≠ 1 ∧ k ≠ 2 ∧ k ≠ 3 ∧ k ≠ 4 ∧ k ≠ 5) : Ret 20 #[.agg (Vc k n t)] (.agg (Vc 0 0 ByteArray.empty)) := by
  intro W
  obtain ⟨h1, h2, h3, h4, h5⟩ := h
  have e1 : (k == 1) = false := by simp [h1]
  have e2 : (k == 2) = false := by simp [h2]
  have e3 : (k == 3) = false := by simp [h3]
  have e4 : (k == 4) = false := by simp [h4]
  have e5 : (k == 5) = false := by simp [h5]
  clear h1 h2 h3 h4 h5
  unfold Vc
  go_enter Tryd.func20, Tryd.ntmps20
  go_wp2
  refine bodyPost_ret (by simp [results, Tryd.results20, go_sem]; rfl) rfl ⟨rfl, below_two _ _ _⟩
theorem settled_1 (n : Int) (t : ByteArray) : Ret 20 #[.agg (Vc 1 n t)] (.agg (Vc 1 0 ByteArray.empty)) := by
  intro W
  unfold Vc
  go_enter Tryd.func20, Tryd.ntmps20
  go_wp2
  refine bodyPost_ret (by simp [results, Tryd.results20, go_sem]; rfl) rfl ⟨rfl, below_two _ _ _⟩
theorem settled_4 (n : Int) (t : ByteArray) : Ret 20 #[.agg (Vc 4 n t)] (.agg (Vc 4 0 t)) := by
  intro W
  unfold Vc
  go_enter Tryd.func20, Tryd.ntmps20
  go_wp2
  refine bodyPost_ret (by first | (simp [results, Tryd.results20, go_sem]; done) | (simp [results, Tryd.results20, go_sem]; rfl)) rfl ⟨rfl, below_two _ _ _⟩
theorem settled_5 (n : Int) (t : ByteArray) : Ret 20 #[.agg (Vc 5 n t)] (.agg (Vc 5 n ByteArray.empty)) := by
  intro W
  unfold Vc
  go_enter Tryd.func20, Tryd.ntmps20
  go_wp2
  refine bodyPost_ret (by simp [results, Tryd.results20, go_sem]; rfl) rfl ⟨rfl, below_two _ _ _⟩
theorem settled_3 (n : Int) (t : ByteArray) : Ret 20 #[.agg (Vc 3 n t)] (.agg (Vc 3 (clampN n) ByteArray.empty)) := by
  intro W
  unfold Vc clampN
  by_cases h1 : n < -9007199254740991
  · rw [if_pos h1]
    go_enter Tryd.func20, Tryd.ntmps20
    go_wp2
    refine bodyPost_ret (by simp [results, Tryd.results20, go_sem]; rfl) rfl ⟨rfl, below_two _ _ _⟩
  · rw [if_neg h1]
    by_cases h2 : 9007199254740991 < n
    · rw [if_pos h2]
      go_enter Tryd.func20, Tryd.ntmps20
      go_wp2
      refine bodyPost_ret (by simp [results, Tryd.results20, go_sem]; rfl) rfl ⟨rfl, below_two _ _ _⟩
    · rw [if_neg h2]
      go_enter Tryd.func20, Tryd.ntmps20
      go_wp2
      refine bodyPost_ret (by simp [results, Tryd.results20, go_sem]; rfl) rfl ⟨rfl, below_two _ _ _⟩
theorem settled_any (k n : Int) (t : ByteArray) : Ret 20 #[.agg (Vc k n t)] (Sv k n t) := by
  by_cases h : k ≠ 1 ∧ k ≠ 2 ∧ k ≠ 3 ∧ k ≠ 4 ∧ k ≠ 5
  · have := settled_none (n := n) (t := t) h
    obtain ⟨h1, h2, h3, h4, h5⟩ := h
    simpa [Sv, stlK, stlN, stlT, h1, h2, h3, h4, h5] using this
  · have h' : k = 1 ∨ k = 2 ∨ k = 3 ∨ k = 4 ∨ k = 5 := by omega
    rcases h' with rfl | rfl | rfl | rfl | rfl
    · simpa [Sv, stlK, stlN, stlT] using settled_1 n t
    · simpa [Sv, stlK, stlN, stlT] using settled_2 n t _ rfl
    · simpa [Sv, stlK, stlN, stlT] using settled_3 n t
    · simpa [Sv, stlK, stlN, stlT] using settled_4 n t
    · simpa [Sv, stlK, stlN, stlT] using settled_5 n t
theorem truth_any (b : Bool) : Ret 21 #[.bool b] (Tr 2 (bI b) ByteArray.empty ⟨#[]⟩ 0) := by
  intro W
  obtain ⟨W2, hW2, b2, hb, hz⟩ := one_box W
  have B2 := hide b2
  have HB := hide hb
  have HZ := hide hz
  clear b2 hb hz
  go_enter Tryd.func21, Tryd.ntmps21
  go_wp2_with (go_at_call 56; refine (boolean_any _ _).mono ?_; rintro e w1 ⟨rfl, hb'⟩; unfold Vc; have hz := unhide HZ; have E2 := hide ((unhide B2).below hb' (by omega)); obtain ⟨d0, d1, d2, g0, g1, g2, lt'⟩ := (unhide E2).all)
  exact ret_vsf Tryd.results21 rfl rfl rfl (unhide E2) rfl ((unhide HB).trans (hb'.mono (by omega))) (by omega) rfl
theorem number_any (n : Int) : Ret 58 #[.int .i64 n] (Tr 3 n ByteArray.empty ⟨#[]⟩ 0) := by
  intro W
  obtain ⟨W2, hW2, b2, hb, hz⟩ := one_box W
  have B2 := hide b2
  have HB := hide hb
  have HZ := hide hz
  obtain ⟨d0, d1, d2, g0, g1, g2, lt'⟩ := b2.all
  clear b2 hb hz
  go_enter Tryd.func58, Tryd.ntmps58
  go_wp2
  exact ret_vsf Tryd.results58 rfl rfl rfl (unhide B2) rfl (unhide HB) (by omega) rfl
theorem nothing_any : Ret 25 #[] (Tr 0 0 ByteArray.empty ⟨#[]⟩ 0) := by
  intro W
  obtain ⟨W2, hW2, b2, hb, hz⟩ := one_box W
  have B2 := hide b2
  have HB := hide hb
  have HZ := hide hz
  obtain ⟨d0, d1, d2, g0, g1, g2, lt'⟩ := b2.all
  clear b2 hb hz
  go_enter Tryd.func25, Tryd.ntmps25
  go_wp2
  exact ret_vsf Tryd.results25 rfl rfl rfl (unhide B2) rfl (unhide HB) (by omega) rfl
theorem fail_any (f : Int) : Ret 62 #[.int .i64 f] (Tr 0 0 ByteArray.empty ⟨#[]⟩ f) := by
  intro W
  obtain ⟨W2, hW2, b2, hb, hz⟩ := one_box W
  have B2 := hide b2
  have HB := hide hb
  have HZ := hide hz
  obtain ⟨d0, d1, d2, g0, g1, g2, lt'⟩ := b2.all
  clear b2 hb hz
  go_enter Tryd.func62, Tryd.ntmps62
  go_wp2
  exact ret_vsf Tryd.results62 rfl rfl rfl (unhide B2) rfl (unhide HB) (by omega) rfl
end Go.Proofs.YthjlhdldomfikaaDoor

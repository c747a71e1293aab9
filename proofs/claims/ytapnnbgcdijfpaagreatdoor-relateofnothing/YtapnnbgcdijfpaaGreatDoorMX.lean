/- RelateOfNothing, walked. -/
import Derived.Test.YtapnnbgcdijfpaaGreatDoorMV
import Derived.Test.YtapnnbgcdijfpaaGreatDoorMW
namespace Go.Proofs.YtapnnbgcdijfpaaGreatDoor
set_option linter.unusedSimpArgs false
set_option linter.unusedVariables false
set_option maxRecDepth 100000
set_option maxHeartbeats 4000000
open Go.RowKit Go.Shelf

variable {P : Program} {lo M : Nat} {mo : Option Nat} {dv : Value} {L : List Kt} {W : World}
theorem asg_nil (x y : Int) (W : World) : Calls Tryz.prog 24 #[.pointer none, .int .i64 x, .int .i64 y] W fun e w' => e = .returned (.tuple #[.bool false, .int .i64 1]) ∧ w' = W := by
  have HN := hide (ask_nil W x y)
  go_enter Tryz.func24, Tryz.ntmps24
  go_wp2_with (first
    | (go_at_call 49
       refine (unhide HN).mono ?_
       rintro e w0 ⟨rfl, h0⟩
       rw [h0]
       clear h0))
  exact bodyPost_ret (v := .tuple #[.bool false, .int .i64 1]) (by simp [results, Tryz.results24, go_sem]) rfl ⟨rfl, rfl⟩
theorem asg_out (h : AAt Tryz.prog lo M mo dv L W) (x y : Int) (ho : ¬ ((0 ≤ x ∧ x < (L.length : Int)) ∧ (0 ≤ y ∧ y < (L.length : Int)))) : Calls Tryz.prog 24 #[.pointer (some ⟨M, 0, none⟩), .int .i64 x, .int .i64 y] W fun e w' => e = .returned (.tuple #[.bool false, .int .i64 11]) ∧ w' = W := by
  obtain ⟨tv, hM0, hK⟩ := h.row
  obtain ⟨a, cap, htv⟩ : ∃ a cap, tv = .slice a L.length cap := by
    obtain ⟨vs, h1, h2, h3⟩ := hK
    rcases h2.2 with ⟨e, e'⟩ | ⟨g, cap, cur, e, _⟩
    · exact ⟨none, 0, by rw [e, e']⟩
    · exact ⟨_, _, e⟩
  subst htv
  have cM : W.cell? ⟨M, 0, none⟩ = some (.slice a L.length cap) := by simp [World.cell?, hM0]
  have hp : (if inP L.length x && inP L.length y then (0 : Int) else 11) = 11 := by
    rw [if_neg]
    simp only [inP, Bool.and_eq_true, decide_eq_true_eq]
    exact ho
  have HQ := hide (ask_any W M a L.length cap cM x y)
  rw [hp] at HQ
  clear hM0 hK cM hp h ho
  go_enter Tryz.func24, Tryz.ntmps24
  go_wp2_with (first
    | (go_at_call 49
       refine (unhide HQ).mono ?_
       rintro e w0 ⟨rfl, h0⟩
       rw [h0]
       clear h0))
  exact bodyPost_ret (v := .tuple #[.bool false, .int .i64 11]) (by simp [results, Tryz.results24, go_sem]) rfl ⟨rfl, rfl⟩
theorem ask_same (i j : Nat) : askK i j ((i + 1 : Nat) : Int) ((j + 1 : Nat) : Int) = askR (i + 1) (j + 1) := by
  unfold askK askR
  have : ((i : Int) == (j : Int)) = decide (i + 1 = j + 1) := by
    by_cases h : i = j
    · subst h; simp
    · have h1 : ¬ ((i : Int) = (j : Int)) := by omega
      have h2 : ¬ (i + 1 = j + 1) := by omega
      simp [h]
      omega
  rw [this]
theorem nothing9_any (x y : Int) (W : World) : Calls Tryz.prog 6 #[.int .i64 x, .int .i64 y] W fun e w' => e = .returned (.bool true) ∧ Below W.heap.size W w' := by
  have HN := hide (new_any W)
  have HNL := hide (asg_nil x y W)
  have HK : Hid (∀ w, Calls Tryz.prog 27 #[] w fun e w' => e = .returned (.bool true) ∧ Below w.heap.size w w') := known9_any
  by_cases hin : (0 ≤ x ∧ x < 10) ∧ (0 ≤ y ∧ y < 10)
  · obtain ⟨⟨h1, h2⟩, h3, h4⟩ := hin
    obtain ⟨i, hi⟩ : ∃ i : Nat, (i : Int) = x := ⟨x.toNat, by omega⟩
    obtain ⟨j, hj⟩ : ∃ j : Nat, (j : Int) = y := ⟨y.toNat, by omega⟩
    subst hi hj
    have HA : Hid (∀ M mo w, AAt Tryz.prog M M mo (.map none) (tenL 10) w → Calls Tryz.prog 24 #[.pointer (some ⟨M, 0, none⟩), .int .i64 (i : Int), .int .i64 (j : Int)] w fun e w' => e = .returned (.tuple #[.bool (askR (i + 1) (j + 1)), .int .i64 0]) ∧ Below w.heap.size w w') := fun M mo w h => by
      have := asg_bare h i j _ _ (ten_at i (by omega)) (ten_at j (by omega)) (bare_bare _) (bare_bare _) ⟨by simp [bareKt]; omega, by simp [bareKt]; omega⟩ ⟨by simp [bareKt]; omega, by simp [bareKt]; omega⟩
      have hs := ask_same i j
      simp only [bareKt] at this
      rw [hs] at this
      exact this
    have HR : Hid (∀ w, Calls Tryz.prog 25 #[.agg #[.int .i64 ((i : Int) + 1), .int .i64 0, .string ⟨#[]⟩, .slice none 0 0, .slice none 0 0, .slice none 0 0], .agg #[.int .i64 ((j : Int) + 1), .int .i64 0, .string ⟨#[]⟩, .slice none 0 0, .slice none 0 0, .slice none 0 0], .slice none 0 0] w fun e w' => e = .returned (.tuple #[.bool (askR (i + 1) (j + 1)), .int .i64 0]) ∧ Below w.heap.size w w') := fun w => by
      have := rassign_any (i + 1) (j + 1) (by omega) (by omega) w
      unfold tK at this
      simpa using this
    obtain ⟨br, hbr⟩ : ∃ br, askR (i + 1) (j + 1) = br := ⟨_, rfl⟩
    rw [hbr] at HA HR
    clear hbr
    have a1 : wrap64 ((i : Int) + 1) = (i : Int) + 1 := by unfold wrap64; omega
    have a2 : wrap64 ((j : Int) + 1) = (j : Int) + 1 := by unfold wrap64; omega
    cases br
    all_goals
      go_enter Tryz.func6, Tryz.ntmps6
      go_wp2_with (first
        | (go_at_call 24
           (with_reducible refine (unhide HNL).mono ?_)
           rintro e w1 ⟨rfl, h0⟩
           rw [h0]
           clear h0)
        | (go_at_call 21
           refine (unhide HN).mono ?_
           rintro e w2 ⟨b, rfl, hA2, hb2⟩
           have HA2 := hide hA2
           have HB2 := hide hb2
           clear hA2 hb2)
        | (go_at_call 24
           (with_reducible refine (unhide HA _ _ w2 (unhide HA2)).mono ?_)
           rintro e w3 ⟨rfl, hb3⟩
           have HB3 := hide ((unhide HB2).trans (hb3.mono (unhide HB2).size))
           clear hb3)
        | (go_at_call_of 26 (i : Int)
           refine (of_any _ w3).mono ?_
           rintro e w4 ⟨rfl, hb4⟩
           have HB4 := hide ((unhide HB3).trans (hb4.mono (unhide HB3).size))
           clear hb4)
        | (go_at_call_of 26 (j : Int)
           refine (of_any _ w4).mono ?_
           rintro e w5 ⟨rfl, hb5⟩
           have HB5 := hide ((unhide HB4).trans (hb5.mono (unhide HB4).size))
           clear hb5)
        | (go_at_call 25
           refine (unhide HR w5).mono ?_
           rintro e w6 ⟨rfl, hb6⟩
           have HB6 := hide ((unhide HB5).trans (hb6.mono (unhide HB5).size))
           clear hb6)
        | (go_at_call 27
           refine (unhide HK w6).mono ?_
           rintro e w7 ⟨rfl, hb7⟩
           have HB7 := hide ((unhide HB6).trans (hb7.mono (unhide HB6).size))
           clear hb7))
      go_ret
      exact ⟨rfl, unhide HB7⟩
  · have HA : Hid (∀ M mo w, AAt Tryz.prog M M mo (.map none) (tenL 10) w → Calls Tryz.prog 24 #[.pointer (some ⟨M, 0, none⟩), .int .i64 x, .int .i64 y] w fun e w' => e = .returned (.tuple #[.bool false, .int .i64 11]) ∧ w' = w) := fun M mo w h => asg_out h x y (by rw [tenL_len]; exact hin)
    have hc : (decide (0 ≤ x) = false) ∨ (decide (0 ≤ x) = true ∧ decide (x < 10) = false) ∨ (decide (0 ≤ x) = true ∧ decide (x < 10) = true ∧ decide (0 ≤ y) = false) ∨ (decide (0 ≤ x) = true ∧ decide (x < 10) = true ∧ decide (0 ≤ y) = true ∧ decide (y < 10) = false) := by
      simp only [decide_eq_false_iff_not, decide_eq_true_eq]
      omega
    clear hin
    rcases hc with c1 | ⟨c1, c2⟩ | ⟨c1, c2, c3⟩ | ⟨c1, c2, c3, c4⟩
    all_goals
      go_enter Tryz.func6, Tryz.ntmps6
      go_wp2_with (first
        | (go_at_call 24
           (with_reducible refine (unhide HNL).mono ?_)
           rintro e w1 ⟨rfl, h0⟩
           rw [h0]
           clear h0)
        | (go_at_call 21
           refine (unhide HN).mono ?_
           rintro e w2 ⟨b, rfl, hA2, hb2⟩
           have HA2 := hide hA2
           have HB2 := hide hb2
           clear hA2 hb2)
        | (go_at_call 24
           (with_reducible refine (unhide HA _ _ w2 (unhide HA2)).mono ?_)
           rintro e w3 ⟨rfl, h3⟩
           rw [h3]
           clear h3)
        | (go_at_call 27
           refine (unhide HK w2).mono ?_
           rintro e w7 ⟨rfl, hb7⟩
           have HB7 := hide ((unhide HB2).trans (hb7.mono (unhide HB2).size))
           clear hb7))
      go_ret
      exact ⟨rfl, unhide HB7⟩
end Go.Proofs.YtapnnbgcdijfpaaGreatDoor

/- NarrowOfNothing, walked. -/
import Derived.Test.YticdaphajanbbaaGreatDoorNL
namespace Go.Proofs.YticdaphajanbbaaGreatDoor
set_option linter.unusedSimpArgs false
set_option linter.unusedVariables false
set_option maxRecDepth 100000
set_option maxHeartbeats 4000000
open Go.RowKit Go.Shelf

variable {P : Program} {lo M : Nat} {mo : Option Nat} {dv : Value} {L : List Kt} {W : World}
theorem nothing10_any (id tk ty : Int) (tt : ByteArray) (yes : Bool) (W : World) : Calls Tryz.prog 3 #[.int .i64 id, .agg #[.int .i64 tk, .string tt, .int .i64 ty], .bool yes] W fun e w' => e = .returned (.bool true) ∧ Below W.heap.size W w' := by
  obtain ⟨W1, hW1⟩ : ∃ W1, W.alloc (.cells #[.int .i64 tk, .string tt, .int .i64 ty] 23) = W1 := ⟨_, rfl⟩
  have hb1 : Below W.heap.size W W1 := by rw [← hW1]; exact (Below.refl _ W).alloc (Nat.le_refl _) _
  have hx1 : Bx W1 W.heap.size #[.int .i64 tk, .string tt, .int .i64 ty] 23 := by rw [← hW1]; exact al_at W _
  have HX1 := hide hx1
  have HB1 := hide hb1
  have HKN := hide (keep_of_nil id tk ty tt yes)
  have HAN := hide (assigned_nil id ty)
  have HN := hide new_any
  have HKI : Hid (∀ M mo w, AAt Tryz.prog M M mo (.map none) (tenL 10) w → Calls Tryz.prog 4 #[.pointer (some ⟨M, 0, none⟩), .int .i64 0, .agg #[.int .i64 2, .string ⟨#[]⟩, .int .i64 6], .bool yes] w fun e w' => e = .returned (.tuple #[.int .i64 0, .int .i64 1]) ∧ Below w.heap.size w w') := fun M mo w h => keep_is ten_ten yes h
  have HKW : Hid (∀ w, Calls Tryz.prog 7 #[] w fun e w' => e = .returned (.bool true) ∧ Below w.heap.size w w') := known10_any
  have c0 := hx1.cell 0 rfl
  have c1 := hx1.cell 1 rfl
  have c2 := hx1.cell 2 rfl
  have l0 := hx1.lt
  clear hb1 hx1
  by_cases hin : 0 ≤ id ∧ id < 10
  · obtain ⟨h1, h2⟩ := hin
    obtain ⟨i, hi⟩ : ∃ i : Nat, (i : Int) = id := ⟨id.toNat, by omega⟩
    subst hi
    have HKT : Hid (∀ M b w, AAt Tryz.prog M M (some b) (.map none) (tenL 10) w → ∃ r : Int, Calls Tryz.prog 4 #[.pointer (some ⟨M, 0, none⟩), .int .i64 (i : Int), .agg #[.int .i64 3, .string ⟨#[]⟩, .int .i64 0], .bool yes] w fun e w' => e = .returned (.tuple #[.int .i64 r, .int .i64 0]) ∧ Below w.heap.size w w') := fun M b w h => keep_truth ten_ten b i (by omega) yes h
    have HAT : Hid (∀ M mo w, AAt Tryz.prog M M mo (.map none) (tenL 10) w → Calls Tryz.prog 5 #[.pointer (some ⟨M, 0, none⟩), .int .i64 (i : Int), .int .i64 0] w fun e w' => e = .returned (.tuple #[.int .i64 (i : Int), .int .i64 0]) ∧ Below w.heap.size w w') := fun M mo w h => assigned_ten ten_ten i (by omega) h
    go_enter Tryz.func3, Tryz.ntmps3
    go_wp2_with (first
      | (go_at_call 4
         (with_reducible refine (unhide HKN W1).mono ?_)
         rintro e w2 ⟨rfl, hb2⟩
         have d2 := ((unhide HX1).below hb2 (unhide HX1).lt).cell 2 rfl
         have m2 := ((unhide HX1).below hb2 (unhide HX1).lt).lt
         have HB2 := hide ((unhide HB1).trans (hb2.mono (unhide HB1).size))
         clear hb2 HKN c0 c1 c2 l0)
      | (go_at_call 5
         (with_reducible refine (unhide HAN w2).mono ?_)
         rintro e w3 ⟨rfl, hb3⟩
         have HB3 := hide ((unhide HB2).trans (hb3.mono (unhide HB2).size))
         clear hb3 HAN d2 m2)
      | (go_at_call 6
         refine (unhide HN w3).mono ?_
         rintro e w4 ⟨b, rfl, hA4, hb4⟩
         have HA4 := hide hA4
         have HB4 := hide ((unhide HB3).trans (hb4.mono (unhide HB3).size))
         obtain ⟨r, hr⟩ := unhide HKT _ _ _ hA4
         have HKR := hide hr
         clear hA4 hb4 hr HKT)
      | (go_at_call 4
         (with_reducible refine (unhide HKR).mono ?_)
         rintro e w5 ⟨rfl, hb5⟩
         have HA5 := hide ((unhide HA4).below ((hb5)))
         have HB5 := hide ((unhide HB4).trans (hb5.mono (unhide HB4).size))
         clear hb5 HKR)
      | (go_at_call 5
         (with_reducible refine (unhide HAT _ _ w5 (unhide HA5)).mono ?_)
         rintro e w6 ⟨rfl, hb6⟩
         have HA6 := hide ((unhide HA5).below hb6)
         have HB6 := hide ((unhide HB5).trans (hb6.mono (unhide HB5).size))
         clear hb6 HAT)
      | (go_at_call 4
         (with_reducible refine (unhide HKI _ _ w6 (unhide HA6)).mono ?_)
         rintro e w7 ⟨rfl, hb7⟩
         have HB7 := hide ((unhide HB6).trans (hb7.mono (unhide HB6).size))
         clear hb7 HKI)
      | (go_at_call 7
         refine (unhide HKW w7).mono ?_
         rintro e w8 ⟨rfl, hb8⟩
         have HB8 := hide ((unhide HB7).trans (hb8.mono (unhide HB7).size))
         clear hb8))
    go_ret
    exact ⟨rfl, unhide HB8⟩
  · have HKT : Hid (∀ M mo w, AAt Tryz.prog M M mo (.map none) (tenL 10) w → Calls Tryz.prog 4 #[.pointer (some ⟨M, 0, none⟩), .int .i64 id, .agg #[.int .i64 3, .string ⟨#[]⟩, .int .i64 0], .bool yes] w fun e w' => e = .returned (.tuple #[.int .i64 0, .int .i64 11]) ∧ Below w.heap.size w w') := fun M mo w h => keep_far ten_ten id yes (by rw [tenL_len]; exact hin) h
    have HAT : Hid (∀ M mo w, AAt Tryz.prog M M mo (.map none) (tenL 10) w → Calls Tryz.prog 5 #[.pointer (some ⟨M, 0, none⟩), .int .i64 id, .int .i64 0] w fun e w' => e = .returned (.tuple #[.int .i64 0, .int .i64 11]) ∧ Below w.heap.size w w') := fun M mo w h => assigned_far id (by rw [tenL_len]; exact hin) h
    have hc : (decide (0 ≤ id) = false) ∨ (decide (0 ≤ id) = true ∧ decide (id < 10) = false) := by
      simp only [decide_eq_false_iff_not, decide_eq_true_eq]
      omega
    clear hin
    rcases hc with q1 | ⟨q1, q2⟩
    all_goals
      go_enter Tryz.func3, Tryz.ntmps3
      go_wp2_with (first
        | (go_at_call 4
           (with_reducible refine (unhide HKN W1).mono ?_)
           rintro e w2 ⟨rfl, hb2⟩
           have d2 := ((unhide HX1).below hb2 (unhide HX1).lt).cell 2 rfl
           have m2 := ((unhide HX1).below hb2 (unhide HX1).lt).lt
           have HB2 := hide ((unhide HB1).trans (hb2.mono (unhide HB1).size))
           clear hb2 HKN c0 c1 c2 l0)
        | (go_at_call 5
           (with_reducible refine (unhide HAN w2).mono ?_)
           rintro e w3 ⟨rfl, hb3⟩
           have HB3 := hide ((unhide HB2).trans (hb3.mono (unhide HB2).size))
           clear hb3 HAN d2 m2)
        | (go_at_call 6
           refine (unhide HN w3).mono ?_
           rintro e w4 ⟨b, rfl, hA4, hb4⟩
           have HA4 := hide hA4
           have HB4 := hide ((unhide HB3).trans (hb4.mono (unhide HB3).size))
           clear hA4 hb4)
        | (go_at_call 4
           (with_reducible refine (unhide HKT _ _ w4 (unhide HA4)).mono ?_)
           rintro e w5 ⟨rfl, hb5⟩
           have HA5 := hide ((unhide HA4).below hb5)
           have HB5 := hide ((unhide HB4).trans (hb5.mono (unhide HB4).size))
           clear hb5 HKT)
        | (go_at_call 5
           (with_reducible refine (unhide HAT _ _ w5 (unhide HA5)).mono ?_)
           rintro e w6 ⟨rfl, hb6⟩
           have HA6 := hide ((unhide HA5).below hb6)
           have HB6 := hide ((unhide HB5).trans (hb6.mono (unhide HB5).size))
           clear hb6 HAT)
        | (go_at_call 4
           (with_reducible refine (unhide HKI _ _ w6 (unhide HA6)).mono ?_)
           rintro e w7 ⟨rfl, hb7⟩
           have HB7 := hide ((unhide HB6).trans (hb7.mono (unhide HB6).size))
           clear hb7 HKI)
        | (go_at_call 7
           refine (unhide HKW w7).mono ?_
           rintro e w8 ⟨rfl, hb8⟩
           have HB8 := hide ((unhide HB7).trans (hb8.mono (unhide HB7).size))
           clear hb8))
      go_ret
      exact ⟨rfl, unhide HB8⟩
end Go.Proofs.YticdaphajanbbaaGreatDoor

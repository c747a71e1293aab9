/- known of chapter 9's statements answers true. -/
import Derived.Test.YtapnnbgcdijfpaaGreatDoorMU
namespace Go.Proofs.YtapnnbgcdijfpaaGreatDoor
set_option linter.unusedSimpArgs false
set_option linter.unusedVariables false
set_option maxRecDepth 100000
set_option maxHeartbeats 4000000
open Go.RowKit Go.Shelf

variable {P : Program} {lo M : Nat} {mo : Option Nat} {dv : Value} {L : List Kt} {W : World}
theorem known9_any (W : World) : Calls Tryz.prog 27 #[] W fun e w' => e = .returned (.bool true) ∧ Below W.heap.size W w' := by
  have HN := hide (new_any W)
  have hk1 : askK 10 6 oneKt.kind (bareKt 7).kind = true := by decide +kernel
  have hk2 : askK 6 10 (bareKt 7).kind oneKt.kind = false := by decide +kernel
  have HA1 : Hid (∀ M mo w, AAt Tryz.prog M M mo (.map none) elevL w → Calls Tryz.prog 24 #[.pointer (some ⟨M, 0, none⟩), .int .i64 10, .int .i64 6] w fun e w' => e = .returned (.tuple #[.bool true, .int .i64 0]) ∧ Below w.heap.size w w') := fun M mo w h => by
    have := asg_bare h 10 6 _ _ elev_ten elev_six bare_one (bare_bare 7) ⟨by decide, by decide⟩ ⟨by decide, by decide⟩
    rw [hk1] at this
    exact this
  have HA2 : Hid (∀ M mo w, AAt Tryz.prog M M mo (.map none) elevL w → Calls Tryz.prog 24 #[.pointer (some ⟨M, 0, none⟩), .int .i64 6, .int .i64 10] w fun e w' => e = .returned (.tuple #[.bool false, .int .i64 0]) ∧ Below w.heap.size w w') := fun M mo w h => by
    have := asg_bare h 6 10 _ _ elev_six elev_ten (bare_bare 7) bare_one ⟨by decide, by decide⟩ ⟨by decide, by decide⟩
    rw [hk2] at this
    exact this
  have HPA : Hid (∀ M mo w, AAt Tryz.prog M M mo (.map none) elevL w → Calls Tryz.prog 56 #[.pointer (some ⟨M, 0, none⟩), .int .i64 10, .int .i64 6, .int .i64 9] w fun e w' => e = .returned (.int .i64 1) ∧ Below w.heap.size w w') := fun M mo w h => pairs_bare h 10 6 _ _ elev_ten elev_six bare_one (bare_bare 7) ⟨by decide, by decide⟩ ⟨by decide, by decide⟩
  go_enter Tryz.func27, Tryz.ntmps27
  go_wp2_with (first
    | (go_at_call 21
       refine (unhide HN).mono ?_
       rintro e w2 ⟨b, rfl, hA2, hb2⟩
       have HA := hide hA2
       have HB2 := hide hb2
       clear hA2 hb2)
    | (go_at_call 11
       refine (find_one b (unhide HA)).mono ?_
       rintro e w3 ⟨rfl, mo3, hA3, hF3⟩
       have HA3 := hide hA3
       have HB3 := hide ((unhide HB2).trans (fa_bel hF3 (unhide HB2).size))
       clear hA3 hF3)
    | (go_at_call 24
       (with_reducible refine (unhide HA1 _ _ w3 (unhide HA3)).mono ?_)
       rintro e w4 ⟨rfl, hb4⟩
       have HA4 := hide ((unhide HA3).below hb4)
       have HB4 := hide ((unhide HB3).trans (hb4.mono (unhide HB3).size))
       clear hb4)
    | (go_at_call 24
       (with_reducible refine (unhide HA2 _ _ w4 (unhide HA4)).mono ?_)
       rintro e w5 ⟨rfl, hb5⟩
       have HA5 := hide ((unhide HA4).below hb5)
       have HB5 := hide ((unhide HB4).trans (hb5.mono (unhide HB4).size))
       clear hb5)
    | (go_at_call 56
       refine (unhide HPA _ _ w5 (unhide HA5)).mono ?_
       rintro e w6 ⟨rfl, hb6⟩
       have HB6 := hide ((unhide HB5).trans (hb6.mono (unhide HB5).size))
       clear hb6))
  go_ret
  exact ⟨rfl, unhide HB6⟩
end Go.Proofs.YtapnnbgcdijfpaaGreatDoor

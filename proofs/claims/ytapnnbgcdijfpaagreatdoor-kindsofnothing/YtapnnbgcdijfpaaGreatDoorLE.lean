/- known of chapter 8's statements answers true. -/
import Derived.Test.YtapnnbgcdijfpaaGreatDoorLD
namespace Go.Proofs.YtapnnbgcdijfpaaGreatDoor
set_option linter.unusedSimpArgs false
set_option linter.unusedVariables false
set_option maxRecDepth 100000
set_option maxHeartbeats 4000000
open Go.RowKit Go.Shelf

variable {P : Program} {lo M : Nat} {mo : Option Nat} {dv : Value} {L : List Kt} {W : World}
def kn8 : List Int := [9, 8, 2]
theorem kn8_rest : restP (tenL 10) kn8 = [9, 8] := by decide +kernel
theorem kn8_ok : UOk (tenL 10) kn8 where
  flat := fun p hp => by
    simp only [kn8, List.mem_cons, List.not_mem_nil, or_false] at hp
    rcases hp with rfl | rfl | rfl <;> exact ⟨.inr ⟨by decide +kernel, by decide +kernel⟩, by decide +kernel⟩
  wide := fun p hp => by
    simp only [kn8, List.mem_cons, List.not_mem_nil, or_false] at hp
    rcases hp with rfl | rfl | rfl <;> exact ⟨by decide +kernel, by decide +kernel, by decide +kernel⟩
  top := fun p hp => by
    simp only [kn8, List.mem_cons, List.not_mem_nil, or_false] at hp
    rcases hp with rfl | rfl | rfl <;> exact ⟨by decide +kernel, by decide +kernel⟩
  ne := by simp [kn8]
  len := by simp [kn8]
  one := by decide +kernel
  two := by rw [kn8_rest]; simp
  few := by rw [kn8_rest]; simp
  are := fun p hp => by
    rw [kn8_rest] at hp
    simp only [List.mem_cons, List.not_mem_nil, or_false] at hp
    rcases hp with rfl | rfl <;> exact ⟨by decide +kernel, by decide +kernel⟩
  sz := by decide +kernel
  ord := fun j hj => by
    rw [kn8_rest] at hj ⊢
    have : j = 0 := by simp at hj; omega
    subst this
    decide +kernel
  new := by decide +kernel
  wl := by decide +kernel
def kn8L : List Kt := tenL 10 ++ [unionKt (tenL 10) [9, 8]]
theorem kn8_words : (unionKt (tenL 10) [9, 8]).words = ⟨#[102, 97, 108, 115, 101, 32, 124, 32, 116, 114, 117, 101]⟩ := by decide +kernel
theorem kn8_six : ∃ k, kn8L[6]? = some k ∧ k.words = ⟨#[110, 117, 109, 98, 101, 114]⟩ := ⟨bareKt 7, rfl, by decide +kernel⟩
theorem known8_any (W : World) : Calls Tryz.prog 10 #[] W fun e w' => e = .returned (.bool true) ∧ Below W.heap.size W w' := by
  have HN := hide (new_any W)
  obtain ⟨k6, hk6, hw6⟩ := kn8_six
  have HK6 := hide hk6
  have HW6 := hide hw6
  clear hk6 hw6
  go_enter Tryz.func10, Tryz.ntmps10
  go_wp2_with (first
    | (go_at_call 21
       refine (unhide HN).mono ?_
       rintro e w2 ⟨b, rfl, hA2, hb2⟩
       have HA2 := hide hA2
       have HB2 := hide hb2
       clear hA2 hb2)
    | (go_at_call 12
       have hb3 := (Below.refl _ w2).alloc (Nat.le_refl _) (.cells #[.int .i64 9, .int .i64 8, .int .i64 2] 3)
       have hr3 : RowR 3 (w2.alloc (.cells #[.int .i64 9, .int .i64 8, .int .i64 2] 3)) (.slice (some ⟨w2.heap.size, 0, none⟩) 3 3) (iv kn8) := ⟨_, 3, rfl, Nat.le_refl _, by decide, .inr ⟨_, 0, _, (0, 0), rfl, al_at w2 _, fun j x hx => by
         match j, hx with
         | 0, hx => simpa [iv, kn8] using hx
         | 1, hx => simpa [iv, kn8] using hx
         | 2, hx => simpa [iv, kn8] using hx
         | j + 3, hx => simp [iv, kn8] at hx⟩⟩
       refine (union_ok b ((unhide HA2).below hb3) (ten_sz 10) (ten_wd 10) (by rw [tenL_len]; omega) kn8 (some ⟨w2.heap.size, 0, none⟩) 3 hr3 kn8_ok (fun p hp => by
         simp only [kn8, List.mem_cons, List.not_mem_nil, or_false] at hp
         rcases hp with rfl | rfl | rfl <;> exact ⟨by decide +kernel, by decide +kernel⟩)).mono ?_
       rw [kn8_rest]
       rw [tenL_len]
       rintro e w4 ⟨rfl, mo4, hA4, hF4⟩
       have HA4 : Hid (AAt Tryz.prog W.heap.size W.heap.size mo4 (.map none) kn8L w4) := hA4
       have HB4 := hide ((unhide HB2).trans ((hb3.mono (unhide HB2).size).trans (fa_below hF4 (Nat.le_trans (unhide HB2).size hb3.size))))
       clear hb3 hr3 hA4 hF4)
    | (go_at_call_of 19 (6 : Int)
       refine (text_any (unhide HA6) 6 _ (unhide HK6) (by rw [unhide HW6]; decide)).mono ?_
       rw [unhide HW6]
       rintro e w7 ⟨rfl, hb7⟩
       have HB7 := hide ((unhide HB6).trans (hb7.mono (unhide HB6).size))
       clear hb7)
    | (go_at_call 19
       refine (text_any (unhide HA4) 10 (unionKt (tenL 10) [9, 8]) rfl (by rw [kn8_words]; decide)).mono ?_
       rw [kn8_words]
       rintro e w6 ⟨rfl, hb6⟩
       have HA6 := hide ((unhide HA4).below hb6)
       have HB6 := hide ((unhide HB4).trans (hb6.mono (unhide HB4).size))
       clear hb6)
    | (go_at_call 18
       obtain ⟨ta, tc, m0, -⟩ := (unhide HA6).cells
       refine (len_any _ _ ta kn8L.length tc m0).mono ?_
       rintro e w7 ⟨rfl, rfl⟩
       clear m0))
  go_ret
  exact ⟨rfl, unhide HB7⟩
end Go.Proofs.YtapnnbgcdijfpaaGreatDoor

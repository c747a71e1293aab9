/- Find of the number 1, in an arena with the ten. -/
import Derived.Test.YtapnnbgcdijfpaaGreatDoorMN
import Derived.Test.YtapnnbgcdijfpaaGreatDoorKP
import Derived.Test.YtapnnbgcdijfpaaGreatDoorKN
import Derived.Test.YtapnnbgcdijfpaaGreatDoorKW
namespace Go.Proofs.YtapnnbgcdijfpaaGreatDoor
set_option linter.unusedSimpArgs false
set_option linter.unusedVariables false
set_option maxRecDepth 100000
set_option maxHeartbeats 4000000
open Go.RowKit Go.Shelf

variable {P : Program} {lo M : Nat} {mo : Option Nat} {dv : Value} {L : List Kt} {W : World}
theorem fieldsOf11 (W : World) : Calls Tryz.prog 57 #[.int .i64 11] W fun e w' => e = .returned (.tuple #[.int .i64 1, .bool true]) ∧ w' = W := by
  go_enter Tryz.func57, Tryz.ntmps57
  go_wp2
  exact bodyPost_ret (v := .tuple #[.int .i64 1, .bool true]) (by simp [results, Tryz.results57, go_sem]) rfl ⟨rfl, rfl⟩
theorem fieldsIn11 (W : World) : Calls Tryz.prog 58 #[.agg #[.int .i64 11, .int .i64 1, .string ⟨#[]⟩, .slice none 0 0, .slice none 0 0, .slice none 0 0]] W fun e w' => e = .returned (.int .i64 1) ∧ Below W.heap.size W w' := by
  have HB := hide ((Below.refl _ W).alloc (Nat.le_refl _) (.cells #[.int .i64 11, .int .i64 1, .string ⟨#[]⟩, .slice none 0 0, .slice none 0 0, .slice none 0 0] 26))
  go_enter Tryz.func58, Tryz.ntmps58
  go_wp2
  go_ret
  exact ⟨rfl, unhide HB⟩
theorem mayBe11 (h : AAt Tryz.prog lo M mo dv L W) : Calls Tryz.prog 31 #[.pointer (some ⟨M, 0, none⟩), .agg #[.int .i64 11, .int .i64 1, .string ⟨#[]⟩, .slice none 0 0, .slice none 0 0, .slice none 0 0]] W fun e w' => e = .returned (.bool true) ∧ Below W.heap.size W w' := by
  obtain ⟨W1, hW1⟩ : ∃ W1, W.alloc (.cells #[.int .i64 11, .int .i64 1, .string ⟨#[]⟩, .slice none 0 0, .slice none 0 0, .slice none 0 0] 26) = W1 := ⟨_, rfl⟩
  have hb1 : Below W.heap.size W W1 := by rw [← hW1]; exact (Below.refl _ W).alloc (Nat.le_refl _) _
  have hx1 : Bx W1 W.heap.size #[.int .i64 11, .int .i64 1, .string ⟨#[]⟩, .slice none 0 0, .slice none 0 0, .slice none 0 0] 26 := by rw [← hW1]; exact al_at W _
  obtain ⟨c0, c1, c2, c3, c4, c5⟩ := Bx6 hx1
  have cl := hx1.lt
  have HX1 := hide hx1
  have HB1 := hide hb1
  have HH := hide h
  clear h hb1 hx1
  go_enter Tryz.func31, Tryz.ntmps31
  go_wp2_with (first
    | (go_at_call 57
       refine (fieldsOf11 _).mono ?_
       rintro e w2 ⟨rfl, h0⟩
       rw [h0]
       clear h0)
    | (refine wpList_load_row rfl 26 _ rfl W.heap.size rfl 26 _ (0, 0) _ (unhide HX1) Tryz.underlying26 rfl info26 ?_)
    | (go_at_call 58
       refine (fieldsIn11 _).mono ?_
       rintro e w3 ⟨rfl, hb3⟩
       have hx3 := (unhide HX1).below hb3 (unhide HX1).lt
       have d0 := hx3.cell 0 rfl
       have d1 := hx3.cell 1 rfl
       have d3 := hx3.cell 3 rfl
       have dl := hx3.lt
       have HB3 := hide ((unhide HB1).trans (hb3.mono (unhide HB1).size))
       clear hb3 hx3)
    | (go_at_call 34
       refine (hasAll_yes ((unhide HH).below (unhide HB3)) none 0 [] (RowR.nil 3 _) (by simp) (by simp)).mono ?_
       rintro e w4 ⟨rfl, h4⟩
       rw [h4]
       clear h4))
  go_ret
  exact ⟨rfl, unhide HB3⟩
def oneKt : Kt := ⟨11, 1, ⟨#[]⟩, [], [], [], ⟨(Lib.decDigits 1).toArray⟩, 1⟩
def elevL : List Kt := tenL 10 ++ [oneKt]
theorem one_new : pos (tenL 10) ⟨(Lib.decDigits 1).toArray⟩ = none := by decide +kernel
/-- The number 1 is found: it is the eleventh type. -/
def FindQ (M : Nat) (b : Nat) (W : World) (e : Ending) (w' : World) : Prop := e = .returned (.tuple #[.int .i64 10, .int .i64 0]) ∧ ∃ mo', AAt Tryz.prog M M mo' (.map none) elevL w' ∧ Fa M (some b) M W w'
theorem find_one (b : Nat) (h : AAt Tryz.prog M M (some b) (.map none) (tenL 10) W) : Calls Tryz.prog 11 #[.pointer (some ⟨M, 0, none⟩), .agg #[.int .i64 11, .int .i64 1, .string ⟨#[]⟩, .slice none 0 0, .slice none 0 0, .slice none 0 0]] W (FindQ M b W) := by
  obtain ⟨W1, hW1⟩ : ∃ W1, W.alloc (.cells #[.int .i64 11, .int .i64 1, .string ⟨#[]⟩, .slice none 0 0, .slice none 0 0, .slice none 0 0] 26) = W1 := ⟨_, rfl⟩
  have hb1 : Below W.heap.size W W1 := by rw [← hW1]; exact (Below.refl _ W).alloc (Nat.le_refl _) _
  have hx1 : Bx W1 W.heap.size #[.int .i64 11, .int .i64 1, .string ⟨#[]⟩, .slice none 0 0, .slice none 0 0, .slice none 0 0] 26 := by rw [← hW1]; exact al_at W _
  obtain ⟨c0, c1, c2, c3, c4, c5⟩ := Bx6 hx1
  have cl := hx1.lt
  have HX1 := hide hx1
  have HB1 := hide hb1
  have HH := hide h
  have HM := hide (mayBe11 (h.below hb1))
  have HLD : Hid (∀ w2, Below W.heap.size W w2 → Calls Tryz.prog 33 #[.pointer (some ⟨M, 0, none⟩), .agg #[.int .i64 11, .int .i64 1, .string ⟨#[]⟩, .slice none 0 0, .slice none 0 0, .slice none 0 0]] w2 (LaidQ M M (some b) (.map none) elevL 10 w2)) := fun w2 hb =>
    laid_new b (h.below hb) (ten_sz 10) 11 1 ⟨#[]⟩ ⟨(Lib.decDigits 1).toArray⟩ none none none 0 0 0 [] [] [] (RowR.nil 3 _) (RowR.nil 9 _) (RowR.nil 4 _) (by simp) (by simp) (by simp) (by simp) (by decide) (by simp) (by decide) (fun w' hb => worded_num 1 _ w' (itoa_small w' 1 (by decide)) _ _ _ _ _ _ _ _ _ _) (by decide +kernel) one_new (by rw [tenL_len]; omega)
  clear h hb1 hx1
  go_enter Tryz.func11, Tryz.ntmps11
  go_wp2_with (first
    | (refine wpList_load_row rfl 26 _ rfl W.heap.size rfl 26 _ (0, 0) _ (unhide HX1) Tryz.underlying26 rfl info26 ?_)
    | (refine wpList_load_row rfl 26 _ rfl W.heap.size rfl 26 _ (0, 0) _ (unhide HX2) Tryz.underlying26 rfl info26 ?_)
    | (go_at_call 31
       refine (unhide HM).mono ?_
       rintro e w2 ⟨rfl, hb2⟩
       have HX2 := hide ((unhide HX1).below hb2 (unhide HX1).lt)
       have HB2 := hide ((unhide HB1).trans (hb2.mono (unhide HB1).size))
       clear hb2)
    | (go_at_call 33
       refine (unhide HLD _ (unhide HB2)).mono ?_
       rintro e w3 ⟨rfl, mo3, hA3, hF3, hm3⟩
       have HA3 := hide hA3
       have HF3 := hide ((below_fa (unhide HB2)).trans hF3 (.inl rfl))
       clear hA3 hF3 hm3)
    | (go_at_call 32
       refine (told_ok _ (by decide) _).mono ?_
       rintro e w4 ⟨rfl, h4⟩
       rw [h4]
       clear h4))
  exact bodyPost_ret (v := .tuple #[.int .i64 10, .int .i64 0]) (by simp [results, Tryz.results11, go_sem]) rfl ⟨rfl, _, unhide HA3, unhide HF3⟩
end Go.Proofs.YtapnnbgcdijfpaaGreatDoor

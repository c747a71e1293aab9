/- The text of a type: those that have nothing; numbers; unions. -/
import Derived.Test.YticdaphajanbbaaGreatDoorKI
namespace Go.Proofs.YticdaphajanbbaaGreatDoor
set_option linter.unusedSimpArgs false
set_option linter.unusedVariables false
set_option maxRecDepth 100000
set_option maxHeartbeats 2000000
open Go.RowKit Go.Shelf

variable {P : Program} {lo M : Nat} {mo : Option Nat} {dv : Value} {L : List Kt} {W : World}
/-- strconv.Itoa answers this text. -/
def ItOk (W : World) (n : Int) (s : ByteArray) : Prop := ∀ w', Below W.heap.size W w' → Calls Tryz.prog 55 #[.int .i64 n] w' fun e w'' => e = .returned (.string s) ∧ Below w'.heap.size w' w''
theorem itoa_small (W : World) (i : Nat) (hi : i < 100) : ItOk W (i : Int) ⟨(Lib.decDigits i).toArray⟩ := fun w' _ => (Tryz.strconv_Itoa_small i hi w').mono fun e w'' ⟨h1, h2⟩ => ⟨h1, by rw [h2]; exact Below.refl _ _⟩
def bares : List (List UInt8) := [[], [97, 110, 121], [117, 110, 107, 110, 111, 119, 110], [110, 101, 118, 101, 114], [118, 111, 105, 100], [117, 110, 100, 101, 102, 105, 110, 101, 100], [110, 117, 108, 108], [110, 117, 109, 98, 101, 114], [115, 116, 114, 105, 110, 103], [116, 114, 117, 101], [102, 97, 108, 115, 101]]
def bareW (k : Nat) : ByteArray := ⟨(bares.getD k []).toArray⟩
theorem bare_word (k : Nat) (h0 : 1 ≤ k) (h1 : k ≤ 10) (W : World) : Calls Tryz.prog 62 #[.int .i64 (k : Int)] W fun e w' => e = .returned (.string (bareW k)) ∧ Below W.heap.size W w' := by
  have hc : k = 1 ∨ k = 2 ∨ k = 3 ∨ k = 4 ∨ k = 5 ∨ k = 6 ∨ k = 7 ∨ k = 8 ∨ k = 9 ∨ k = 10 := by omega
  clear h0 h1
  rcases hc with rfl | rfl | rfl | rfl | rfl | rfl | rfl | rfl | rfl | rfl
  all_goals (
    go_enter Tryz.func62, Tryz.ntmps62
    go_wp2
    go_ret
    exact ⟨rfl, (Below.refl _ W).alloc (Nat.le_refl _) _⟩)
theorem worded_bare (k : Nat) (h0 : 1 ≤ k) (h1 : k ≤ 10) (W : World) (pa na ma : Option Addr) (a b c d e f : Nat) : Calls Tryz.prog 35 #[.pointer (some ⟨M, 0, none⟩), .agg (tyV (k : Int) 0 ⟨#[]⟩ (.slice pa a b) (.slice na c d) (.slice ma e f))] W fun e w' => e = .returned (.string (bareW k)) ∧ Below W.heap.size W w' := by
  unfold tyV
  obtain ⟨z, hz⟩ : ∃ z : Int, (k : Int) = z := ⟨_, rfl⟩
  have HBW : Hid (∀ w, Calls Tryz.prog 62 #[.int .i64 z] w fun e w' => e = .returned (.string (bareW k)) ∧ Below w.heap.size w w') := fun w => by rw [← hz]; exact bare_word k h0 h1 w
  have hI := itoa_small W 0 (by omega)
  have hb1 := (Below.refl _ W).alloc (Nat.le_refl _) (.cells #[.int .i64 z, .int .i64 0, .string ⟨#[]⟩, .slice pa a b, .slice na c d, .slice ma e f] 36)
  obtain ⟨W1, hW1⟩ : ∃ W1, W.alloc (.cells #[.int .i64 z, .int .i64 0, .string ⟨#[]⟩, .slice pa a b, .slice na c d, .slice ma e f] 36) = W1 := ⟨_, rfl⟩
  have hx1 : Bx W1 W.heap.size #[.int .i64 z, .int .i64 0, .string ⟨#[]⟩, .slice pa a b, .slice na c d, .slice ma e f] 36 := by rw [← hW1]; exact al_at W _
  rw [hW1] at hb1
  have HB1 := hide hb1
  have HX1 := hide hx1
  have HI := hide hI
  have n11 : (z == 11) = false := by simp; omega
  have n12 : (z == 12) = false := by simp; omega
  have n13 : (z == 13) = false := by simp; omega
  have n14 : (z == 14) = false := by simp; omega
  have n15 : (z == 15) = false := by simp; omega
  have n16 : (z == 16) = false := by simp; omega
  have n17 : (z == 17) = false := by simp; omega
  have n18 : (z == 18) = false := by simp; omega
  have n19 : (z == 19) = false := by simp; omega
  have n20 : (z == 20) = false := by simp; omega
  have n21 : (z == 21) = false := by simp; omega
  have n22 : (z == 22) = false := by simp; omega
  have n23 : (z == 23) = false := by simp; omega
  have c1 := hx1.cell 1 rfl
  have lt := hx1.lt
  rw [hz]
  clear hz h0 h1 hI hb1 hx1
  go_enter Tryz.func35, Tryz.ntmps35
  go_wp2_with (first
    | (go_at_call 55
       refine (unhide HI W1 (unhide HB1)).mono ?_
       rintro e w2 ⟨rfl, hb2⟩
       have HX2 := hide ((unhide HX1).below hb2 (unhide HX1).lt)
       have HB2 := hide ((unhide HB1).trans (hb2.mono (unhide HB1).size))
       have d0 := (unhide HX2).cell 0 rfl
       have dl := (unhide HX2).lt
       clear hb2)
    | (go_at_call 62
       refine (unhide HBW _).mono ?_
       rintro e w3 ⟨rfl, hb3⟩))
  go_ret
  exact ⟨rfl, (unhide HB2).trans (hb3.mono (unhide HB2).size)⟩
end Go.Proofs.YticdaphajanbbaaGreatDoor

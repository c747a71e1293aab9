/- The reference's texts of the ten. -/
import Derived.Test.YtapnnbgcdijfpaaGreatDoorMO
namespace Go.Proofs.YtapnnbgcdijfpaaGreatDoor
set_option linter.unusedSimpArgs false
set_option linter.unusedVariables false
set_option maxRecDepth 100000
set_option maxHeartbeats 4000000
open Go.RowKit Go.Shelf

variable {P : Program} {lo M : Nat} {mo : Option Nat} {dv : Value} {L : List Kt} {W : World}
/-- The texts, as a row has them. -/
def wordsC : Array Value := (bares.map fun s => Value.string ⟨s.toArray⟩).toArray
theorem rwords_any (W : World) : Calls Tryz.prog 162 #[] W fun e w' => e = .returned (.slice (some ⟨W.heap.size, 0, none⟩) 11 11) ∧ w' = W.alloc (.cells wordsC 9) := by
  go_enter Tryz.func162, Tryz.ntmps162
  go_wp2
  go_ret
  exact ⟨rfl, rfl⟩
theorem words_at (k : Nat) (h : k ≤ 10) : wordsC[k]? = some (.string (bareW k)) := by
  have hc : k = 0 ∨ k = 1 ∨ k = 2 ∨ k = 3 ∨ k = 4 ∨ k = 5 ∨ k = 6 ∨ k = 7 ∨ k = 8 ∨ k = 9 ∨ k = 10 := by omega
  rcases hc with rfl | rfl | rfl | rfl | rfl | rfl | rfl | rfl | rfl | rfl | rfl <;> rfl
/-- A type of the reference's without anything but its kind. -/
def tK (k : Nat) : Array Value := #[.int .i64 (k : Int), .int .i64 0, .string ⟨#[]⟩, .slice none 0 0, .slice none 0 0, .slice none 0 0]
theorem rtext_any (k : Nat) (h0 : 1 ≤ k) (h1 : k ≤ 10) (W : World) : Calls Tryz.prog 127 #[.agg (tK k)] W fun e w' => e = .returned (.string (bareW k)) ∧ Below W.heap.size W w' := by
  unfold tK
  obtain ⟨W1, hW1⟩ : ∃ W1, W.alloc (.cells #[.int .i64 (k : Int), .int .i64 0, .string ⟨#[]⟩, .slice none 0 0, .slice none 0 0, .slice none 0 0] 55) = W1 := ⟨_, rfl⟩
  have hb1 : Below W.heap.size W W1 := by rw [← hW1]; exact (Below.refl _ W).alloc (Nat.le_refl _) _
  have hx1 : Bx W1 W.heap.size #[.int .i64 (k : Int), .int .i64 0, .string ⟨#[]⟩, .slice none 0 0, .slice none 0 0, .slice none 0 0] 55 := by rw [← hW1]; exact al_at W _
  have c0 := hx1.cell 0 rfl
  have cl := hx1.lt
  have n11 : ((k : Int) == 11) = false := by simp; omega
  have n12 : ((k : Int) == 12) = false := by simp; omega
  have n13 : ((k : Int) == 13) = false := by simp; omega
  have n14 : ((k : Int) == 14) = false := by simp; omega
  have n15 : ((k : Int) == 15) = false := by simp; omega
  have n16 : ((k : Int) == 16) = false := by simp; omega
  have n17 : ((k : Int) == 17) = false := by simp; omega
  have n18 : ((k : Int) == 18) = false := by simp; omega
  have n19 : ((k : Int) == 19) = false := by simp; omega
  have n20 : ((k : Int) == 20) = false := by simp; omega
  have n21 : ((k : Int) == 21) = false := by simp; omega
  have n22 : ((k : Int) == 22) = false := by simp; omega
  have n23 : ((k : Int) == 23) = false := by simp; omega
  have d1 : decide ((k : Int) < 1) = false := by simp; omega
  have d2 : decide ((10 : Int) < (k : Int)) = false := by simp; omega
  have i0 : (0 : Int) ≤ (k : Int) := by omega
  have i1 : (k : Int) < 11 := by omega
  have HS : Hid (∀ w', Below W1.heap.size W1 w' → w'.cell? ⟨W.heap.size, 0, none⟩ = some (.int .i64 (k : Int))) := fun w' hb => (hb.cell (p := ⟨W.heap.size, 0, none⟩) cl).trans c0
  have HW : Hid (∀ w' : World, (w'.alloc (.cells wordsC 9)).cell? ⟨w'.heap.size, k, none⟩ = some (.string (bareW k))) := fun w' => Bx.cell (al_at w' _) k (words_at k h1)
  obtain ⟨W2, hW2⟩ : ∃ W2, W1.alloc (.cells wordsC 9) = W2 := ⟨_, rfl⟩
  have hcc : W2.cell? ⟨W1.heap.size, k, none⟩ = some (.string (bareW k)) := by rw [← hW2]; exact unhide HW W1
  have hcl : W1.heap.size < W2.heap.size := by rw [← hW2]; simp
  have hb2 : Below W1.heap.size W1 W2 := by rw [← hW2]; exact (Below.refl _ _).alloc (Nat.le_refl _) _
  have c02 := unhide HS W2 hb2
  have HB2 := hide hb2
  have HB1 := hide hb1
  clear hx1 hb1 hb2 h0 h1
  go_enter Tryz.func127, Tryz.ntmps127
  go_wp2
  go_region_with (first | (go_at_call 162; refine (rwords_any _).mono ?_; rintro e w2 ⟨rfl, rfl⟩))
  all_goals (
    go_wp2
    go_ret
    exact ⟨rfl, ((unhide HB1).trans ((unhide HB2).mono (unhide HB1).size)).drew⟩)
end Go.Proofs.YtapnnbgcdijfpaaGreatDoor

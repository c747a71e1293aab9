/- made. -/
import Derived.Test.YtapnnbgcdijfpaaGreatDoorMQ1
namespace Go.Proofs.YtapnnbgcdijfpaaGreatDoor
set_option linter.unusedSimpArgs false
set_option linter.unusedVariables false
set_option maxRecDepth 100000
set_option maxHeartbeats 4000000
open Go.RowKit Go.Shelf
/-- made of two of the ten. -/
theorem rmade_any (x y : Nat) (hx : 1 ≤ x ∧ x ≤ 10) (hy : 1 ≤ y ∧ y ≤ 10) (W : World) : Calls Tryz.prog 92 #[.agg (tK x), .agg (tK y)] W fun e w' => ∃ s, e = .returned (.agg (pK x y s)) ∧ Below W.heap.size W w' := by
  obtain ⟨Z, hZ⟩ : ∃ Z : Array Value, Z = #[.int .i64 0, .int .i64 0, .string ⟨#[]⟩, .slice none 0 0, .slice none 0 0, .slice none 0 0, .int .i64 0, .int .i64 0, .string ⟨#[]⟩, .slice none 0 0, .slice none 0 0, .slice none 0 0, .string ⟨#[]⟩] := ⟨_, rfl⟩
  have hZs : Z.size = 13 := by rw [hZ]; rfl
  obtain ⟨W1, hW1⟩ : ∃ W1, ((W.alloc (.cells (tK x) 55)).alloc (.cells (tK y) 55)).alloc (.cells Z 149) = W1 := ⟨_, rfl⟩
  have hb1 : Below W.heap.size W W1 := by rw [← hW1]; exact (((Below.refl _ W).alloc (Nat.le_refl _) _).alloc (by simp) _).alloc (by simp; omega) _
  have hB : Bx W1 W.heap.size (tK x) 55 := by rw [← hW1]; exact (Below.heap_alloc _ _ _ (by simp; omega)).trans ((Below.heap_alloc _ _ _ (by simp)).trans (al_at W _))
  have hC : Bx W1 (W.heap.size + 1) (tK y) 55 := by
    rw [← hW1]
    have := al_at (W.alloc (.cells (tK x) 55)) (.cells (tK y) 55)
    rw [World.size_alloc] at this
    exact (Below.heap_alloc _ _ _ (by simp)).trans this
  have hR : Bx W1 (W.heap.size + 1 + 1) Z 149 := by
    rw [← hW1]
    have := al_at ((W.alloc (.cells (tK x) 55)).alloc (.cells (tK y) 55)) (.cells Z 149)
    rw [World.size_alloc, World.size_alloc] at this
    exact this
  have HB := hide hB
  have HC := hide hC
  have HR := hide hR
  have HB1 := hide hb1
  have HZ := hide hZs
  clear hb1 hB hC hR hZs
  rw [hZ] at hW1
  unfold tK at hW1
  show Calls Tryz.prog 92 #[.agg #[.int .i64 (x : Int), .int .i64 0, .string ⟨#[]⟩, .slice none 0 0, .slice none 0 0, .slice none 0 0], .agg #[.int .i64 (y : Int), .int .i64 0, .string ⟨#[]⟩, .slice none 0 0, .slice none 0 0, .slice none 0 0]] W _
  go_enter Tryz.func92, Tryz.ntmps92
  go_wp2
  try rw [hW1]
  refine made_region "relate.go:26" x y hx hy 0 W.heap.size (W.heap.size + 1) (W.heap.size + 1 + 1) Z (unhide HZ) (by show 14 ≤ 14; omega) rfl rfl rfl (unhide HB) (unhide HC) (unhide HR) (by omega) (by omega) ?_
  intro u s t hu
  have hRu := (unhide HR).below hu (unhide HR).lt
  have HU := hide hu
  have HRU := hide hRu
  clear hu hRu
  go_wp2
  simp only [Act.put]
  refine bodyPost_ret (results_cell_row rfl _ _ (W.heap.size + 1 + 1) 149 (pK x y t) (0, 0) _ (by simp) (setRow_at (unhide HRU)) Tryz.underlying149 rfl info149) rfl ?_
  exact ⟨_, rfl, below_row ((unhide HB1).trans ((unhide HU).mono (unhide HB1).size)) (by omega) _⟩
end Go.Proofs.YtapnnbgcdijfpaaGreatDoor

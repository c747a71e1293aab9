/- The reference's types of a bare kind. -/
import Derived.Test.YtapnnbgcdijfpaaGreatDoorMG
namespace Go.Proofs.YtapnnbgcdijfpaaGreatDoor
set_option linter.unusedSimpArgs false
set_option linter.unusedVariables false
set_option maxRecDepth 100000
set_option maxHeartbeats 4000000
open Go.RowKit Go.Shelf

theorem info55 : (Tryz.prog.info? 55).map (·.size) = some 6 := by kernel_rfl
theorem of_any (k : Int) (w : World) : Calls Tryz.prog 26 #[.int .i64 k] w fun e w' => e = .returned (.agg #[.int .i64 k, .int .i64 0, .string ⟨#[]⟩, .slice none 0 0, .slice none 0 0, .slice none 0 0]) ∧ Below w.heap.size w w' := by
  have HB := hide ((Below.refl _ w).alloc (Nat.le_refl _) (.cells tyZ 55))
  unfold tyZ at HB
  go_enter Tryz.func26, Tryz.ntmps26
  go_wp2_with (refine wpList_store_row rfl 55 _ _ rfl w.heap.size _ rfl rfl 55 _ (al_at w _) info55 rfl (one6 _ _ _ _ _ _ _ _ _ _ _ _) ?_)
  refine bodyPost_ret (results_cell_row rfl _ _ w.heap.size 55 _ (0, 0) _ rfl (setRow_heap _ _ _ _ _ _ (al_at w _)) Tryz.underlying55 rfl info55) rfl ?_
  exact ⟨rfl, below_row (unhide HB) (Nat.le_refl _) _⟩
end Go.Proofs.YtapnnbgcdijfpaaGreatDoor

/- take: a cell is taken, if one is left. -/
import Derived.Deep.QuietTactic
import Derived.BigQuiet
import Derived.BigRegion
import Derived.Deep.RegionHeld3
import Derived.Test.YtdgocaokmmhenaaGreatDoorH3
namespace Go.Proofs.YtdgocaokmmhenaaGreatDoor
set_option linter.unusedSimpArgs false
set_option linter.unusedVariables false
set_option maxRecDepth 100000
open Go.RowKit

variable {w W : World} {l : Ly} {hb : Nat} {H : PH}
theorem take_full (h : HAt W l hb H) (hf : H.used = H.room) : Calls Tryz.prog 33 #[ptr hb] W fun e w' => e = .returned (.bool false) ∧ Below W.heap.size W w' := by
  obtain ⟨a, c, c0, c1, c2, fr, hc⟩ := h.cells
  rw [hf] at c1
  unfold ptr
  clear hc h
  go_enter Tryz.func33, Tryz.ntmps33
  go_wp2
  go_region
  all_goals go_wp2
  all_goals go_ret
  all_goals exact ⟨rfl, (Below.refl _ _).drew⟩
/-- The heap with one cell more taken, ahead of what is laid in it. -/
theorem take_ok (h : HAt W l hb H) (hf : H.used < H.room) : Calls Tryz.prog 33 #[ptr hb] W fun e w' => e = .returned (.bool true) ∧ w' = (W.setCell ⟨hb, 1, none⟩ (.int .i64 ((H.used : Int) + 1))).drew := by
  obtain ⟨a, c, c0, c1, c2, fr, hc⟩ := h.cells
  have f1 := fr 1
  have hr := h.room
  have e1 : ((H.used : Int) == (H.room : Int)) = false := by simp; omega
  unfold ptr
  clear hc h fr
  go_enter Tryz.func33, Tryz.ntmps33
  go_wp2
  go_region
  all_goals go_wp2
  all_goals go_ret
  all_goals exact ⟨rfl, rfl⟩
end Go.Proofs.YtdgocaokmmhenaaGreatDoor

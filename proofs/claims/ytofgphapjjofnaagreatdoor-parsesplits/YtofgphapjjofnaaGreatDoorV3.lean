/- Towards the law: QF. -/
import Derived.Test.YtofgphapjjofnaaGreatDoorMB
import Derived.Test.YtofgphapjjofnaaGreatDoorVL
set_option linter.unusedSimpArgs false
set_option linter.unusedVariables false
set_option maxRecDepth 100000
set_option maxHeartbeats 8000000
namespace Go.Proofs.YtofgphapjjofnaaGreatDoor
section
open Go.RowKit Go.Shelf
theorem has_contains {l : List (List Int)} {m : List Int} (hl : ∀ x ∈ l, Bys x) (hm : Bys m) : hasT (l.map strOfNums) (strOfNums m) = l.contains m := by
 induction l with
 | nil => rfl
 | cons x l ih =>
   have h1 := str_eq hm (hl x (List.mem_cons_self ..));have h2 := ih fun y hy => hl y (List.mem_cons_of_mem _ hy)
   unfold hasT at h2 ⊢;rw [List.map_cons, List.any_cons, h1, h2, List.contains_cons]
end
end Go.Proofs.YtofgphapjjofnaaGreatDoor

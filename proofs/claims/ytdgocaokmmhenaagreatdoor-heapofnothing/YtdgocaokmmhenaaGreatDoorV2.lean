/- strings.Clone, what is thrown, Truth, ofNumber, opposite, turned. -/
import Derived.Test.YtdgocaokmmhenaaGreatDoorSh
import Derived.Test.YtdgocaokmmhenaaGreatDoorV1
namespace Go.Proofs.YtdgocaokmmhenaaGreatDoor
set_option linter.unusedSimpArgs false
set_option linter.unusedVariables false
set_option maxRecDepth 100000
open Go.RowKit Go.Shelf

theorem clone71 (s : ByteArray) (w : World) (h : s.size ≤ 281474976710656) : Calls Tryz.prog 64 #[.string s] w fun e w' => e = .returned (.string s) ∧ Below w.heap.size w w' :=
  AnyPu.stringslite_Clone Tryz.clone_lays s w h
theorem clone52 (s : ByteArray) (w : World) (h : s.size ≤ 281474976710656) : Calls Tryz.prog 37 #[.string s] w fun e w' => e = .returned (.string s) ∧ Below w.heap.size w w' := by
  have hh := hide h
  clear h
  go_enter Tryz.func37, Tryz.ntmps37
  go_wp2_with (go_at_call 64; refine (clone71 s _ (unhide hh)).mono ?_; rintro e w1 ⟨rfl, hb⟩)
  go_ret
  exact ⟨rfl, hb⟩
/-- What Truth answers. -/
def vtruP (k n : Int) (t : ByteArray) : Bool := if k = 2 ∨ k = 3 then n != 0 else if k = 4 then !t.toList.isEmpty else k == 5
theorem Truth_any (k n : Int) (t : ByteArray) : Ret 66 #[.agg (Vc k n t)] (.bool (vtruP k n t)) := by
  intro W
  unfold Vc vtruP
  by_cases h2 : k = 2
  · subst h2
    go_enter Tryz.func66, Tryz.ntmps66
    go_wp2
    go_ret
    exact ⟨rfl, below_one _ _⟩
  by_cases h3 : k = 3
  · subst h3
    go_enter Tryz.func66, Tryz.ntmps66
    go_wp2
    go_ret
    exact ⟨rfl, below_one _ _⟩
  by_cases h4 : k = 4
  · subst h4
    go_enter Tryz.func66, Tryz.ntmps66
    go_wp2
    go_ret
    exact ⟨rfl, below_one _ _⟩
  have e2 : (k == 2) = false := by simp [h2]
  have e3 : (k == 3) = false := by simp [h3]
  have e4 : (k == 4) = false := by simp [h4]
  rw [if_neg (by omega), if_neg h4]
  clear h2 h3 h4
  go_enter Tryz.func66, Tryz.ntmps66
  go_wp2
  go_ret
  exact ⟨rfl, below_one _ _⟩
end Go.Proofs.YtdgocaokmmhenaaGreatDoor

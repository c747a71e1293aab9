/- The document's own order of two texts, purely: the difference of the first runes that differ, or of how many there are. -/
import Derived.Test.YtdgocaokmmhenaaGreatDoorVY6
namespace Go.Proofs.YtdgocaokmmhenaaGreatDoor
set_option linter.unusedSimpArgs false
set_option linter.unusedVariables false
set_option maxRecDepth 100000

theorem gS_pos (s : ByteArray) (j : Nat) : 0 ≤ gS s j := by unfold gS; omega
theorem dRune_bd {g : Nat → Int} (hg : ∀ j, 0 ≤ g j) (len : Nat) (p : Int) : 0 ≤ dRune g len p ∧ dRune g len p ≤ 1114111 := by
  unfold dRune
  split
  · split
    · rename_i h
      obtain ⟨h1, h2, h3, h4, h5⟩ := good_inv h
      refine ⟨(acc_bd (hg _) h3).1, ?_⟩
      unfold alw at h5
      have := of_decide_eq_true h5
      omega
    · omega
  · omega
/-- The k-th rune. -/
def rn (s : ByteArray) (k : Nat) : Int := dRune (gS s) s.size (posn (gS s) s.size k)
theorem rn_bd (s : ByteArray) (k : Nat) : 0 ≤ rn s k ∧ rn s k ≤ 1114111 := dRune_bd (gS_pos s) _ _
end Go.Proofs.YtdgocaokmmhenaaGreatDoor

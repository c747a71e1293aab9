/- The document's own Good: is a text UTF-8 all through? -/
import Derived.LoopTactic
import Derived.Laws.IdiomStrings
import Derived.Test.YtdgocaokmmhenaaGreatDoorVY5
namespace Go.Proofs.YtdgocaokmmhenaaGreatDoor
set_option linter.unusedSimpArgs false
set_option linter.unusedVariables false
set_option maxRecDepth 100000
set_option maxHeartbeats 1000000
open Go.RowKit Go.Shelf

theorem gS_bd (s : ByteArray) (j : Nat) : 0 ≤ gS s j ∧ gS s j ≤ 255 := by
  have := (s.data[j]?.getD 0).toNat_lt
  unfold gS; omega
theorem conv_str (s : ByteArray) (w : World) (hs : s.size ≤ 4294967296) : ∃ cap C fr, (convert 9 82 (.string s)).run Tryz.prog w = .ok (.slice (some ⟨w.heap.size, 0, none⟩) s.size cap) (w.drew.alloc (.cells C 5 fr)) ∧
    s.size ≤ cap ∧ cap ≤ maxLen ∧ ∀ j, j < s.size → C[j]? = some (.int .u8 (gS s j)) := by
  refine ⟨_, _, _, run_bytes_of_string w 9 82 5 s Tryz.underlying9 Tryz.underlying82 Tryz.underlying5, grownCap_ge _ _ _ _, grownCap_le_maxLen _ _ _ _ (by unfold maxLen; omega), fun j hj => ?_⟩
  have hj' : j < s.data.size := hj
  have hj2 : j < s.size := hj
  simp [bytesRow, Array.getElem?_append, hj', hj2, gS]
theorem posn_end {g : Nat → Int} {len m : Nat} (h : posn g len m = len) : ∀ k, m ≤ k → posn g len k = len := by
  intro k hk
  induction k with
  | zero => obtain rfl : m = 0 := by omega
            exact h
  | succ k ih =>
    rcases Nat.lt_or_ge k m with h' | h'
    · obtain rfl : m = k + 1 := by omega
      exact h
    · have := ih h'
      simp only [posn, this]
      simp [stepN]
end Go.Proofs.YtdgocaokmmhenaaGreatDoor

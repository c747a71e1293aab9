/- The reference's words and Reserved, in whatever memory. -/
import Derived.LoopN
import Derived.Test.YtpdkeggiokebmaaDoorXO
namespace Go.Proofs.YtpdkeggiokebmaaDoor
set_option linter.unusedSimpArgs false
set_option linter.unusedVariables false
open Go.RowKit Go.Shelf

set_option maxRecDepth 100000 in
set_option maxHeartbeats 1000000 in
theorem words_any (w : World) : Calls Tryd.prog 61 #[] w fun e w' => e = .returned (.slice (some ⟨w.heap.size, 0, none⟩) 36 36) ∧ Txts w' w.heap.size 0 wordL ∧ Below w.heap.size w w' := by
  go_enter Tryd.func61, Tryd.ntmps61
  go_wp2
  go_ret
  refine ⟨rfl, fun j s hj => ?_, (Below.refl _ w).alloc (Nat.le_refl _) _⟩
  rw [Lib.cell_of_heap (World.alloc_heap_new w _), Nat.zero_add]
  show ((wordL.map Value.string).toArray)[j]? = some (.string s)
  simp [hj]

set_option maxRecDepth 100000 in
set_option maxHeartbeats 1000000 in
theorem reserved_any (v : ByteArray) (w : World) : Calls Tryd.prog 42 #[.string v] w fun e w' => e = .returned (.bool (hasT wordL v)) ∧ Below w.heap.size w w' := by
  go_enter Tryd.func42, Tryd.ntmps42
  go_wp2_with (go_at_call 61; refine (words_any _).mono ?_; rintro e W ⟨rfl, hT, hB⟩)
  have HT := hide hT
  have hwl : wordL.length = 36 := rfl
  have HWL := hide hwl
  clear hT hwl
  go_loopw [4] (fun t wr => ∃ k : Nat, k ≤ 36 ∧ t = .int .i64 (k : Int) ∧ (∀ j s, j < k → wordL[j]? = some s → (v.toList == s.toList) = false) ∧ wr = W) (fun t _ => 36 - (intOf t).toNat)
  case atStart => exact ⟨0, Nat.zero_le _, rfl, fun j s h => by omega, rfl⟩
  case round =>
    obtain ⟨k, hk, rfl, hno, hw⟩ := hrel
    subst wr
    have HNO := hide hno
    clear hno
    by_cases hlt : k < 36
    · have hlt' : (k : Int) < 36 := by omega
      obtain ⟨s, hs⟩ : ∃ s, wordL[k]? = some s := ⟨_, List.getElem?_eq_getElem (by rw [unhide HWL]; exact hlt)⟩
      have hcell := unhide HT k s hs
      rw [Nat.zero_add] at hcell
      have HS := hide hs
      clear hs
      cases he : (v.toList == s.toList) with
      | true =>
        have he' : (s.toList == v.toList) = true := by rw [BEq.comm]; exact he
        have HE := hide he
        clear he
        go_wp2
        go_ret
        exact ⟨congrArg (fun b => Ending.returned (Value.bool b)) (hasT_yes (unhide HS) (unhide HE)).symm, hB⟩
      | false =>
        have he' : (s.toList == v.toList) = false := by rw [BEq.comm]; exact he
        have HE := hide he
        clear he
        go_wp2
        refine ⟨⟨k + 1, by omega, by go_num, fun j s' hj hs' => ?_, trivial⟩, by simp [intOf]; omega⟩
        by_cases hjk : j = k
        · subst hjk
          have := hs'.symm.trans (unhide HS)
          cases this
          exact unhide HE
        · exact unhide HNO j s' (by omega) hs'
    · have hlt' : ¬ (k : Int) < 36 := by omega
      obtain rfl : k = 36 := by omega
      go_wp2
      go_ret
      refine ⟨?_, hB⟩
      exact congrArg (fun b => Ending.returned (Value.bool b)) (hasT_no (fun j s hj => unhide HNO j s (by have := (List.getElem?_eq_some_iff.1 hj).1; rw [unhide HWL] at this; exact this) hj)).symm
end Go.Proofs.YtpdkeggiokebmaaDoor

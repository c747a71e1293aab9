/- strings.Clone, what is thrown, Truth, ofNumber, opposite, turned. -/
import Derived.Test.YthjlhdldomfikaaDoorSh
import Derived.Test.YthjlhdldomfikaaDoorV1
namespace Go.Proofs.YthjlhdldomfikaaDoor
set_option linter.unusedSimpArgs false
set_option linter.unusedVariables false
set_option maxRecDepth 100000
open Go.RowKit Go.Shelf

theorem clone71 (s : ByteArray) (w : World) (h : s.size ≤ 281474976710656) : Calls Tryd.prog 71 #[.string s] w fun e w' => e = .returned (.string s) ∧ Below w.heap.size w w' :=
  AnyPu.stringslite_Clone Tryd.clone_lays s w h
theorem clone52 (s : ByteArray) (w : World) (h : s.size ≤ 281474976710656) : Calls Tryd.prog 52 #[.string s] w fun e w' => e = .returned (.string s) ∧ Below w.heap.size w w' := by
  have hh := hide h
  clear h
  go_enter Tryd.func52, Tryd.ntmps52
  go_wp2_with (go_at_call 71; refine (clone71 s _ (unhide hh)).mono ?_; rintro e w1 ⟨rfl, hb⟩)
  go_ret
  exact ⟨rfl, hb⟩
theorem throw_any (s : ByteArray) (h : s.size ≤ 281474976710656) : Ret 57 #[.string s] (Tr 0 0 ByteArray.empty s 1) := by
  intro W
  obtain ⟨W2, hW2, b2, hb, hz⟩ := one_box W
  have B2 := hide b2
  have HB := hide hb
  have HZ := hide hz
  have HH := hide h
  clear b2 hb hz h
  go_enter Tryd.func57, Tryd.ntmps57
  go_wp2_with (go_at_call 52; refine (clone52 _ _ (unhide HH)).mono ?_; rintro e w1 ⟨rfl, hb'⟩; have hz := unhide HZ; have E2 := hide ((unhide B2).below hb' (by omega)); obtain ⟨d0, d1, d2, g0, g1, g2, lt'⟩ := (unhide E2).all)
  exact ret_vsf Tryd.results57 rfl rfl rfl (unhide E2) rfl ((unhide HB).trans (hb'.mono (by omega))) (by omega) rfl
/-- What Truth answers. -/
def truP (k n : Int) (t : ByteArray) : Bool := if k = 2 ∨ k = 3 then n != 0 else if k = 4 then !t.toList.isEmpty else k == 5
theorem Truth_any (k n : Int) (t : ByteArray) : Ret 14 #[.agg (Vc k n t)] (.bool (truP k n t)) := by
  intro W
  unfold Vc truP
  by_cases h2 : k = 2
  · subst h2
    go_enter Tryd.func14, Tryd.ntmps14
    go_wp2
    go_ret
    exact ⟨rfl, below_one _ _⟩
  by_cases h3 : k = 3
  · subst h3
    go_enter Tryd.func14, Tryd.ntmps14
    go_wp2
    go_ret
    exact ⟨rfl, below_one _ _⟩
  by_cases h4 : k = 4
  · subst h4
    go_enter Tryd.func14, Tryd.ntmps14
    go_wp2
    go_ret
    exact ⟨rfl, below_one _ _⟩
  have e2 : (k == 2) = false := by simp [h2]
  have e3 : (k == 3) = false := by simp [h3]
  have e4 : (k == 4) = false := by simp [h4]
  rw [if_neg (by omega), if_neg h4]
  clear h2 h3 h4
  go_enter Tryd.func14, Tryd.ntmps14
  go_wp2
  go_ret
  exact ⟨rfl, below_one _ _⟩
end Go.Proofs.YthjlhdldomfikaaDoor

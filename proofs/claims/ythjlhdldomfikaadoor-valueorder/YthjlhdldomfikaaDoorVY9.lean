/- The law ValueOrder at every two values whose texts have no more than 1048576 bytes: where it ends in what is known. -/
import Derived.LoopTactic
import Derived.Test.YthjlhdldomfikaaDoorVY8
import Derived.Test.YthjlhdldomfikaaDoorVYA
namespace Go.Proofs.YthjlhdldomfikaaDoor
set_option linter.unusedSimpArgs false
set_option linter.unusedVariables false
set_option maxRecDepth 100000
set_option maxHeartbeats 4000000
open Go.RowKit Go.Shelf

theorem three_ways (k : Int) : k = 3 ∨ k = 4 ∨ ((k == 3) = false ∧ (k == 4) = false) := by
  by_cases h : k = 3
  · exact .inl h
  · by_cases h' : k = 4
    · exact .inr (.inl h')
    · exact .inr (.inr ⟨by simpa using h, by simpa using h'⟩)

theorem known_ne (k n k' n' : Int) (t t' : ByteArray) (hs : t.size ≤ 1048576) (hs' : t'.size ≤ 1048576) (h4 : ¬ (k = 4 ∧ k' = 4)) (h : 70000 < t.size + t'.size ∨ ¬ (k = 3 ∧ k' = 3)) :
    Ret 7 #[.agg (Vc k n t), .agg (Vc k' n' t')] (.bool true) := by
  intro W
  unfold Vc
  obtain ⟨W2, hW2, b1, b2, hb⟩ := two_vx W k n t k' n' t'
  obtain ⟨c0, c1, c2, f0, f1, f2, lt⟩ := b1.all
  obtain ⟨x0, x1, x2, y0, y1, y2, ly⟩ := b2.all
  have HB := hide hb
  have HKN := hide known_any
  have ga : (t.size : Int) ≤ 1048576 := by omega
  have gb : (t'.size : Int) ≤ 1048576 := by omega
  clear b1 b2 hb
  by_cases hbig : 70000 < t.size + t'.size
  · have gs : (70000 : Int) < (t.size : Int) + (t'.size : Int) := by omega
    clear h hbig hs hs'
    rcases three_ways k with rfl | rfl | ⟨e1, e3⟩ <;> rcases three_ways k' with rfl | rfl | ⟨e2, e4⟩
    all_goals first
      | exact absurd ⟨rfl, rfl⟩ h4
      | (clear h4
         go_enter Tryd.func7, Tryd.ntmps7
         go_wp2_with (go_at_call 9; refine (unhide HKN _).mono ?_; rintro e5 w9 ⟨rfl, q⟩; have HB9 := hide (Below.up (unhide HB) q); clear q)
         go_ret
         exact ⟨rfl, unhide HB9⟩)
  · have gs : ¬ ((70000 : Int) < (t.size : Int) + (t'.size : Int)) := by omega
    have h2 := h.resolve_left hbig
    clear h hbig hs hs'
    rcases three_ways k with rfl | rfl | ⟨e1, e3⟩ <;> rcases three_ways k' with rfl | rfl | ⟨e2, e4⟩
    all_goals first
      | exact absurd ⟨rfl, rfl⟩ h4
      | exact absurd ⟨rfl, rfl⟩ h2
      | (clear h2 h4
         go_enter Tryd.func7, Tryd.ntmps7
         go_wp2_with (go_at_call 9; refine (unhide HKN _).mono ?_; rintro e5 w9 ⟨rfl, q⟩; have HB9 := hide (Below.up (unhide HB) q); clear q)
         go_ret
         exact ⟨rfl, unhide HB9⟩)

theorem known_44 (n n' : Int) (t t' : ByteArray) (hs : t.size ≤ 1048576) (hs' : t'.size ≤ 1048576) (g1 g2 : Bool) (HG1 : Ret 18 #[.string t] (.bool g1)) (HG2 : Ret 18 #[.string t'] (.bool g2))
    (h : 70000 < t.size + t'.size ∨ g1 = false ∨ g2 = false) :
    Ret 7 #[.agg (Vc 4 n t), .agg (Vc 4 n' t')] (.bool true) := by
  intro W
  unfold Vc
  obtain ⟨W2, hW2, b1, b2, hb⟩ := two_vx W 4 n t 4 n' t'
  obtain ⟨c0, c1, c2, f0, f1, f2, lt⟩ := b1.all
  obtain ⟨x0, x1, x2, y0, y1, y2, ly⟩ := b2.all
  have X1 := hide b1
  have X2 := hide b2
  have HB := hide hb
  have HKN := hide known_any
  replace HG1 := hide HG1
  replace HG2 := hide HG2
  have ga : (t.size : Int) ≤ 1048576 := by omega
  have gb : (t'.size : Int) ≤ 1048576 := by omega
  clear b1 b2 hb
  by_cases hbig : 70000 < t.size + t'.size
  · have gs : (70000 : Int) < (t.size : Int) + (t'.size : Int) := by omega
    clear h hbig hs hs'
    cases g1 <;> cases g2
    all_goals
      go_enter Tryd.func7, Tryd.ntmps7
      go_wp2_with (first
        | (go_at_call 9; refine (unhide HKN _).mono ?_; rintro e5 w9 ⟨rfl, q⟩; have HB9 := hide (Below.up (unhide HB) q); clear q)
        | (go_at_call 18; refine (unhide HG1 _).mono ?_; clear HG1; rintro e5 w1 ⟨rfl, q⟩; replace X1 := hide (Bv.up (unhide X1) q); replace X2 := hide (Bv.up (unhide X2) q); replace HB := hide (Below.up (unhide HB) q); clear q; obtain ⟨c0, c1, c2, f0, f1, f2, lt⟩ := Bv.all (unhide X1); obtain ⟨x0, x1, x2, y0, y1, y2, ly⟩ := Bv.all (unhide X2))
        | (go_at_call 18; refine (unhide HG2 _).mono ?_; clear HG2; rintro e5 w1 ⟨rfl, q⟩; replace X1 := hide (Bv.up (unhide X1) q); replace X2 := hide (Bv.up (unhide X2) q); replace HB := hide (Below.up (unhide HB) q); clear q; obtain ⟨c0, c1, c2, f0, f1, f2, lt⟩ := Bv.all (unhide X1); obtain ⟨x0, x1, x2, y0, y1, y2, ly⟩ := Bv.all (unhide X2)))
      go_ret
      exact ⟨rfl, unhide HB9⟩
  · have gs : ¬ ((70000 : Int) < (t.size : Int) + (t'.size : Int)) := by omega
    have h2 := h.resolve_left hbig
    clear h hbig hs hs'
    cases g1 <;> cases g2
    all_goals first
      | (exfalso; simp at h2; done)
      | (clear h2
         go_enter Tryd.func7, Tryd.ntmps7
         go_wp2_with (first
           | (go_at_call 9; refine (unhide HKN _).mono ?_; rintro e5 w9 ⟨rfl, q⟩; have HB9 := hide (Below.up (unhide HB) q); clear q)
           | (go_at_call 18; refine (unhide HG1 _).mono ?_; clear HG1; rintro e5 w1 ⟨rfl, q⟩; replace X1 := hide (Bv.up (unhide X1) q); replace X2 := hide (Bv.up (unhide X2) q); replace HB := hide (Below.up (unhide HB) q); clear q; obtain ⟨c0, c1, c2, f0, f1, f2, lt⟩ := Bv.all (unhide X1); obtain ⟨x0, x1, x2, y0, y1, y2, ly⟩ := Bv.all (unhide X2))
           | (go_at_call 18; refine (unhide HG2 _).mono ?_; clear HG2; rintro e5 w1 ⟨rfl, q⟩; replace X1 := hide (Bv.up (unhide X1) q); replace X2 := hide (Bv.up (unhide X2) q); replace HB := hide (Below.up (unhide HB) q); clear q; obtain ⟨c0, c1, c2, f0, f1, f2, lt⟩ := Bv.all (unhide X1); obtain ⟨x0, x1, x2, y0, y1, y2, ly⟩ := Bv.all (unhide X2)))
         go_ret
         exact ⟨rfl, unhide HB9⟩)
end Go.Proofs.YthjlhdldomfikaaDoor

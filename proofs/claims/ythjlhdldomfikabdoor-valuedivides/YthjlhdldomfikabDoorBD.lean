/- The law ValueDivides, walked. -/
import Derived.Test.YthjlhdldomfikabDoorBA
namespace Go.Proofs.YthjlhdldomfikabDoor
set_option linter.unusedSimpArgs false
set_option linter.unusedVariables false
set_option maxRecDepth 100000
set_option maxHeartbeats 4000000
open Go.RowKit Go.Shelf
theorem divides_zero (a : Int) (h1 : -9007199254740991 ≤ a) (h2 : a ≤ 9007199254740991) (H : Ret 8 #[.string ⟨#[37]⟩, .agg (Vc 3 a ByteArray.empty), .agg (Vc 3 0 ByteArray.empty)] (Tr 0 0 ByteArray.empty ⟨#[]⟩ 2)) : Ret 5 #[.int .i64 a, .int .i64 0] (.bool true) := by
  intro W
  have HK := hide known_any
  have HN := hide num_any
  have J := hide H
  unfold Tr Vc at J
  clear H
  go_enter Tryd.func5, Tryd.ntmps5
  go_wp2_with (first
    | (go_at_call 7; refine (unhide HK _).mono ?_; rintro e w8 ⟨rfl, hb8⟩; have HB8 := hide (Below.up (unhide HB4) hb8))
    | (go_at_call_of 9 a; refine (unhide HN _ _).mono ?_; unfold Vc; rintro e w1 ⟨rfl, hb1⟩; have HB1 := hide hb1)
    | (go_at_call 9; refine (unhide HN _ _).mono ?_; unfold Vc; rintro e w2 ⟨rfl, hb2⟩; have HB2 := hide (Below.up (unhide HB1) hb2))
    | (go_at_call 8; refine (unhide J _).mono ?_; rintro e w3 ⟨rfl, hb3⟩; obtain ⟨W4, hW4, e1, e3, e4⟩ := new_box w3 0 0 ByteArray.empty; have HB4 := hide (Below.up (unhide HB2) (Below.up hb3 e3)); obtain ⟨g0, g1, g2, -, -, -, lg⟩ := e1.all; clear e1 e3 e4 hb3))
  go_ret
  exact ⟨rfl, unhide HB8⟩
theorem divides_some (a b r : Int) (h1 : -9007199254740991 ≤ a) (h2 : a ≤ 9007199254740991) (h3 : -9007199254740991 ≤ b) (h4 : b ≤ 9007199254740991) (h0 : (b == 0) = false) (q1 : -9007199254740991 ≤ r) (q2 : r ≤ 9007199254740991) (q3 : ((a - r).tmod b == 0) = true) (q4 : r < max b (-b)) (q5 : -r < max b (-b)) (q6 : r = 0 ∨ (r < 0 ∧ a < 0) ∨ (0 < r ∧ ¬ a < 0)) (hb0 : ¬ b = 0)
    (H : Ret 8 #[.string ⟨#[37]⟩, .agg (Vc 3 a ByteArray.empty), .agg (Vc 3 b ByteArray.empty)] (Tr 3 r ByteArray.empty ⟨#[]⟩ 0)) : Ret 5 #[.int .i64 a, .int .i64 b] (.bool true) := by
  intro W
  have HK := hide known_any
  have HN := hide num_any
  have J := hide H
  unfold Tr Vc at J
  clear H
  rcases q6 with rfl | ⟨q6, q7⟩ | ⟨q6, q7⟩
  · have q3' : a.tmod b = 0 := by simpa using q3
    clear q3 q5
    go_enter Tryd.func5, Tryd.ntmps5
    go_wp2_with (first
      | (go_at_call 7; refine (unhide HK _).mono ?_; rintro e w8 ⟨rfl, hb8⟩; have HB8 := hide (Below.up (unhide HB4) hb8))
      | (go_at_call_of 9 a; refine (unhide HN _ _).mono ?_; unfold Vc; rintro e w1 ⟨rfl, hb1⟩; have HB1 := hide hb1)
      | (go_at_call_of 9 b; refine (unhide HN _ _).mono ?_; unfold Vc; rintro e w2 ⟨rfl, hb2⟩; have HB2 := hide (Below.up (unhide HB1) hb2))
      | (go_at_call 8; refine (unhide J _).mono ?_; rintro e w3 ⟨rfl, hb3⟩; obtain ⟨W4, hW4, e1, e3, e4⟩ := new_box w3 3 0 ByteArray.empty; have HB4 := hide (Below.up (unhide HB2) (Below.up hb3 e3)); obtain ⟨g0, g1, g2, -, -, -, lg⟩ := e1.all; clear e1 e3 e4 hb3))
    go_ret
    exact ⟨rfl, unhide HB8⟩
  · go_enter Tryd.func5, Tryd.ntmps5
    go_wp2_with (first
      | (go_at_call 7; refine (unhide HK _).mono ?_; rintro e w8 ⟨rfl, hb8⟩; have HB8 := hide (Below.up (unhide HB4) hb8))
      | (go_at_call_of 9 a; refine (unhide HN _ _).mono ?_; unfold Vc; rintro e w1 ⟨rfl, hb1⟩; have HB1 := hide hb1)
      | (go_at_call_of 9 b; refine (unhide HN _ _).mono ?_; unfold Vc; rintro e w2 ⟨rfl, hb2⟩; have HB2 := hide (Below.up (unhide HB1) hb2))
      | (go_at_call 8; refine (unhide J _).mono ?_; rintro e w3 ⟨rfl, hb3⟩; obtain ⟨W4, hW4, e1, e3, e4⟩ := new_box w3 3 r ByteArray.empty; have HB4 := hide (Below.up (unhide HB2) (Below.up hb3 e3)); obtain ⟨g0, g1, g2, -, -, -, lg⟩ := e1.all; clear e1 e3 e4 hb3))
    go_ret
    exact ⟨rfl, unhide HB8⟩
  · go_enter Tryd.func5, Tryd.ntmps5
    go_wp2_with (first
      | (go_at_call 7; refine (unhide HK _).mono ?_; rintro e w8 ⟨rfl, hb8⟩; have HB8 := hide (Below.up (unhide HB4) hb8))
      | (go_at_call_of 9 a; refine (unhide HN _ _).mono ?_; unfold Vc; rintro e w1 ⟨rfl, hb1⟩; have HB1 := hide hb1)
      | (go_at_call_of 9 b; refine (unhide HN _ _).mono ?_; unfold Vc; rintro e w2 ⟨rfl, hb2⟩; have HB2 := hide (Below.up (unhide HB1) hb2))
      | (go_at_call 8; refine (unhide J _).mono ?_; rintro e w3 ⟨rfl, hb3⟩; obtain ⟨W4, hW4, e1, e3, e4⟩ := new_box w3 3 r ByteArray.empty; have HB4 := hide (Below.up (unhide HB2) (Below.up hb3 e3)); obtain ⟨g0, g1, g2, -, -, -, lg⟩ := e1.all; clear e1 e3 e4 hb3))
    go_ret
    exact ⟨rfl, unhide HB8⟩
theorem divides_any (a b : Int) : Ret 5 #[.int .i64 a, .int .i64 b] (.bool true) := by
  by_cases h : 9007199254740991 < a ∨ a < -9007199254740991 ∨ 9007199254740991 < b ∨ b < -9007199254740991
  · exact big_5 a b h
  have hB := Binary_num ⟨#[37]⟩ a b ByteArray.empty ByteArray.empty
  rw [binN_5, clamp_of a (by omega), clamp_of b (by omega)] at hB
  unfold restR at hB
  by_cases h0 : b = 0
  · subst h0
    rw [if_pos rfl] at hB
    exact divides_zero a (by omega) (by omega) hB
  · rw [if_neg h0] at hB
    have e := Int.mul_tdiv_add_tmod a b
    have n1 : (a.tmod b).natAbs < b.natAbs := by rw [Int.natAbs_tmod]; exact Nat.mod_lt _ (by omega)
    have n2 : (a.tmod b).natAbs ≤ a.natAbs := by rw [Int.natAbs_tmod]; exact Nat.mod_le _ _
    have s1 : 0 ≤ a → 0 ≤ a.tmod b := fun h => Int.tmod_nonneg b h
    have s2 : a ≤ 0 → a.tmod b ≤ 0 := fun h => by
      have := Int.tmod_nonneg b (a := -a) (by omega)
      rw [Int.neg_tmod] at this
      omega
    have q3 : (a - a.tmod b).tmod b = 0 := by
      have : a - a.tmod b = b * a.tdiv b := by omega
      rw [this]
      exact Int.mul_tmod_right b _
    generalize a.tmod b = r at *
    refine divides_some a b r (by omega) (by omega) (by omega) (by omega) (by simp [h0]) (by omega) (by omega) (by simp [q3]) (by omega) (by omega) (by omega) h0 hB
end Go.Proofs.YthjlhdldomfikabDoor

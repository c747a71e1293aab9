/- The law ValueTurns, walked. -/
import Derived.Test.YthjlhdldomfikaaDoorVK
namespace Go.Proofs.YthjlhdldomfikaaDoor
set_option linter.unusedSimpArgs false
set_option linter.unusedVariables false
set_option maxRecDepth 100000
set_option maxHeartbeats 4000000
open Go.RowKit Go.Shelf

theorem two_vals (W : World) (k n : Int) (t : ByteArray) (k' n' : Int) (t' : ByteArray) : ∃ W2, (W.alloc (.cells #[.int .i64 k, .int .i64 n, .string t] 23)).alloc (.cells #[.int .i64 k', .int .i64 n', .string t'] 23) = W2 ∧ Bv W2 W.heap.size k n t ∧ Bv W2 (W.heap.size + 1) k' n' t' ∧ Below W.heap.size W W2 ∧ W2.heap.size = W.heap.size + 2 := by
  refine ⟨_, rfl, (Bx.new W _ _).alloc _, ?_, below_two _ _ _, by simp⟩
  have := Bx.new (W.alloc (.cells #[.int .i64 k, .int .i64 n, .string t] 23)) (Vc k' n' t') 23
  rw [World.size_alloc] at this
  exact this
theorem neg_num (a : Int) (t : ByteArray) (h : -9007199254740991 ≤ a ∧ a ≤ 9007199254740991) : Ret 10 #[.string ⟨#[45]⟩, .agg (Vc 3 a t)] (Tr 3 (-a) ByteArray.empty ⟨#[]⟩ 0) := by
  have := Unary_any ⟨#[45]⟩ 3 a t
  have e : (unP ⟨#[45]⟩ (stlK 3) (stlN 3 a) (stlT 3 t)) = ⟨3, -stlN 3 a, ByteArray.empty, ⟨#[]⟩, 0⟩ := rfl
  rw [e, show stlN 3 a = clampN a from by simp [stlN], clamp_of a h] at this
  exact this
theorem valueTurns_big (a b : Int) (h : 9007199254740991 < a ∨ a < -9007199254740991 ∨ 9007199254740991 < b ∨ b < -9007199254740991) : Ret 8 #[.int .i64 a, .int .i64 b] (.bool true) := by
  intro W
  have HK := hide known_any
  by_cases h1 : 9007199254740991 < a
  · clear h
    go_enter Tryd.func8, Tryd.ntmps8
    go_wp2_with (go_at_call 9; refine (unhide HK _).mono ?_; rintro e w2 ⟨rfl, hb2⟩)
    go_ret
    exact ⟨rfl, hb2⟩
  by_cases h2 : a < -9007199254740991
  · clear h
    go_enter Tryd.func8, Tryd.ntmps8
    go_wp2_with (go_at_call 9; refine (unhide HK _).mono ?_; rintro e w2 ⟨rfl, hb2⟩)
    go_ret
    exact ⟨rfl, hb2⟩
  by_cases h3 : 9007199254740991 < b
  · clear h
    go_enter Tryd.func8, Tryd.ntmps8
    go_wp2_with (go_at_call 9; refine (unhide HK _).mono ?_; rintro e w2 ⟨rfl, hb2⟩)
    go_ret
    exact ⟨rfl, hb2⟩
  have h4 : b < -9007199254740991 := by omega
  clear h
  go_enter Tryd.func8, Tryd.ntmps8
  go_wp2_with (go_at_call 9; refine (unhide HK _).mono ?_; rintro e w2 ⟨rfl, hb2⟩)
  go_ret
  exact ⟨rfl, hb2⟩
theorem valueTurns_inexact (a b s : Int) (h1 : -9007199254740991 ≤ a) (h2 : a ≤ 9007199254740991) (h3 : -9007199254740991 ≤ b) (h4 : b ≤ 9007199254740991) (hs : a + b = s) (h5 : 9007199254740991 < s ∨ s < -9007199254740991)
    (H1 : Ret 12 #[.string ⟨#[43]⟩, .agg (Vc 3 a ByteArray.empty), .agg (Vc 3 b ByteArray.empty)] (Tr 0 0 ByteArray.empty ⟨#[]⟩ 2)) (H2 : Ret 12 #[.string ⟨#[43]⟩, .agg (Vc 3 b ByteArray.empty), .agg (Vc 3 a ByteArray.empty)] (Tr 0 0 ByteArray.empty ⟨#[]⟩ 2)) :
    Ret 8 #[.int .i64 a, .int .i64 b] (.bool true) := by
  intro W
  have HK := hide known_any
  have J1 := hide H1
  have J2 := hide H2
  unfold Tr Vc at J1 J2
  clear H1 H2
  obtain ⟨W2, hW2, b1, b2, hb, hz⟩ := two_vals W 3 a ⟨#[]⟩ 3 b ⟨#[]⟩
  obtain ⟨c0, c1, c2, -, -, -, lt⟩ := b1.all
  obtain ⟨x0, x1, x2, -, -, -, ly⟩ := b2.all
  have B1 := hide b1
  have B2 := hide b2
  have HB := hide hb
  have HZ := hide hz
  have HW2 := hide hW2
  clear b1 b2 hb hz hW2 c0 c1 c2 x0 x1 x2 lt ly
  rcases h5 with h5 | h5
  all_goals
    go_enter Tryd.func8, Tryd.ntmps8
    go_wp2_with (first
      | (go_at_call 9; refine (unhide HK _).mono ?_; rintro e w8 ⟨rfl, hb8⟩; have HB8 := hide (Below.up (unhide HB4) hb8))
      | (go_at_call 12
         refine (unhide J1 _).mono ?_
         clear J1
         rintro e w1 ⟨rfl, hb0⟩
         have hb1 : Below W2.heap.size W2 w1 := (by rw [← unhide HW2]; exact hb0)
         clear hb0
         obtain ⟨W3, hW3, e1, e3, e4⟩ := new_box w1 0 0 ByteArray.empty
         have q := Below.up hb1 e3
         have X1 := hide ((unhide B1).up q)
         have X2 := hide ((unhide B2).up q)
         have X3 := hide e1
         obtain ⟨c0, c1, c2, -, -, -, lt⟩ := (unhide X1).all
         obtain ⟨x0, x1, x2, -, -, -, ly⟩ := (unhide X2).all
         have HB3 := hide (Below.up (unhide HB) q)
         clear hb1 e1 e3 e4 q)
      | (go_at_call 12
         refine (unhide J2 _).mono ?_
         clear J2
         rintro e w2 ⟨rfl, hb2⟩
         obtain ⟨W4, hW4, e1, e3, e4⟩ := new_box w2 0 0 ByteArray.empty
         have q := Below.up hb2 e3
         obtain ⟨d0, d1, d2, -, -, -, ld⟩ := ((unhide X3).up q).all
         obtain ⟨g0, g1, g2, -, -, -, lg⟩ := e1.all
         have HB4 := hide (Below.up (unhide HB3) q)
         clear hb2 e1 e3 e4 q))
    go_ret
    exact ⟨rfl, unhide HB8⟩
theorem valueTurns_exact (a b : Int) (h1 : -9007199254740991 ≤ a) (h2 : a ≤ 9007199254740991) (h3 : -9007199254740991 ≤ b) (h4 : b ≤ 9007199254740991) (h5 : -9007199254740991 ≤ a + b) (h6 : a + b ≤ 9007199254740991)
    (H1 : Ret 12 #[.string ⟨#[43]⟩, .agg (Vc 3 a ByteArray.empty), .agg (Vc 3 b ByteArray.empty)] (Tr 3 (a + b) ByteArray.empty ⟨#[]⟩ 0)) (H2 : Ret 12 #[.string ⟨#[43]⟩, .agg (Vc 3 b ByteArray.empty), .agg (Vc 3 a ByteArray.empty)] (Tr 3 (a + b) ByteArray.empty ⟨#[]⟩ 0))
    (H3 : Ret 12 #[.string ⟨#[45]⟩, .agg (Vc 3 (a + b) ByteArray.empty), .agg (Vc 3 b ByteArray.empty)] (Tr 3 a ByteArray.empty ⟨#[]⟩ 0))
    (m : Int) (H4 : Ret 10 #[.string ⟨#[45]⟩, .agg (Vc 3 a ByteArray.empty)] (Tr 3 m ByteArray.empty ⟨#[]⟩ 0)) (H5 : Ret 10 #[.string ⟨#[45]⟩, .agg (Vc 3 m ByteArray.empty)] (Tr 3 a ByteArray.empty ⟨#[]⟩ 0)) :
    Ret 8 #[.int .i64 a, .int .i64 b] (.bool true) := by
  intro W
  have HK := hide known_any
  have J1 := hide H1
  have J2 := hide H2
  have J3 := hide H3
  have J4 := hide H4
  have J5 := hide H5
  unfold Tr Vc at J1 J2 J3 J4 J5
  clear H1 H2 H3 H4 H5
  obtain ⟨W2, hW2, b1, b2, hb, hz⟩ := two_vals W 3 a ⟨#[]⟩ 3 b ⟨#[]⟩
  obtain ⟨c0, c1, c2, -, -, -, lt⟩ := b1.all
  obtain ⟨x0, x1, x2, -, -, -, ly⟩ := b2.all
  have B1 := hide b1
  have B2 := hide b2
  have HB := hide hb
  have HZ := hide hz
  have HW2 := hide hW2
  clear b1 b2 hb hz hW2 c0 c1 c2 x0 x1 x2 lt ly
  go_enter Tryd.func8, Tryd.ntmps8
  go_wp2_with (first
    | (go_at_call 9; refine (unhide HK _).mono ?_; rintro e w8 ⟨rfl, hb8⟩; have HB8 := hide (Below.up (unhide HB7) hb8))
    | (go_at_call 12
       refine (unhide J1 _).mono ?_
       clear J1
       rintro e w1 ⟨rfl, hb0⟩
       have hb1 : Below W2.heap.size W2 w1 := (by rw [← unhide HW2]; exact hb0)
       clear hb0
       obtain ⟨W3, hW3, e1, e3, e4⟩ := new_box w1 3 (a + b) ByteArray.empty
       have q := Below.up hb1 e3
       have X1 := hide ((unhide B1).up q)
       have X2 := hide ((unhide B2).up q)
       have X3 := hide e1
       obtain ⟨c0, c1, c2, -, -, -, lt⟩ := (unhide X1).all
       obtain ⟨x0, x1, x2, -, -, -, ly⟩ := (unhide X2).all
       have HB3 := hide (Below.up (unhide HB) q)
       clear hb1 e1 e3 e4 q)
    | (go_at_call 12
       refine (unhide J2 _).mono ?_
       clear J2
       rintro e w2 ⟨rfl, hb2⟩
       obtain ⟨W4, hW4, e1, e3, e4⟩ := new_box w2 3 (a + b) ByteArray.empty
       have q := Below.up hb2 e3
       have Y1 := hide ((unhide X1).up q)
       have Y2 := hide ((unhide X2).up q)
       have Y3 := hide ((unhide X3).up q)
       obtain ⟨x0, x1, x2, -, -, -, ly⟩ := (unhide Y2).all
       obtain ⟨d0, d1, d2, -, -, -, ld⟩ := (unhide Y3).all
       obtain ⟨g0, g1, g2, -, -, -, lg⟩ := e1.all
       have HB4 := hide (Below.up (unhide HB3) q)
       clear hb2 e1 e3 e4 q)
    | (go_at_call 12
       refine (unhide J3 _).mono ?_
       clear J3
       rintro e w3 ⟨rfl, hb3⟩
       obtain ⟨W5, hW5, e1, e3, e4⟩ := new_box w3 3 a ByteArray.empty
       have q := Below.up hb3 e3
       have Z1 := hide ((unhide Y1).up q)
       have Z3 := hide ((unhide Y3).up q)
       have Z4 := hide e1
       obtain ⟨c0, c1, c2, -, -, -, lt⟩ := (unhide Z1).all
       have HB5 := hide (Below.up (unhide HB4) q)
       clear hb3 e1 e3 e4 q)
    | (go_at_call 10
       refine (unhide J4 _).mono ?_
       clear J4
       rintro e w4 ⟨rfl, hb4⟩
       obtain ⟨W6, hW6, e1, e3, e4⟩ := new_box w4 3 m ByteArray.empty
       have q := Below.up hb4 e3
       have U1 := hide ((unhide Z1).up q)
       have U3 := hide ((unhide Z3).up q)
       have U4 := hide ((unhide Z4).up q)
       obtain ⟨g0, g1, g2, -, -, -, lg⟩ := e1.all
       have HB6 := hide (Below.up (unhide HB5) q)
       clear hb4 e1 e3 e4 q)
    | (go_at_call 10
       refine (unhide J5 _).mono ?_
       clear J5
       rintro e w5 ⟨rfl, hb5⟩
       obtain ⟨W7, hW7, e1, e3, e4⟩ := new_box w5 3 a ByteArray.empty
       have q := Below.up hb5 e3
       obtain ⟨c0, c1, c2, -, -, -, lt⟩ := ((unhide U1).up q).all
       obtain ⟨x0, x1, x2, -, -, -, ly⟩ := ((unhide U3).up q).all
       obtain ⟨d0, d1, d2, -, -, -, ld⟩ := ((unhide U4).up q).all
       obtain ⟨g0, g1, g2, -, -, -, lg⟩ := e1.all
       have HB7 := hide (Below.up (unhide HB6) q)
       clear hb5 e1 e3 e4 q))
  go_ret
  exact ⟨rfl, unhide HB8⟩
theorem valueTurns_any (a b : Int) (ha : -9223372036854775808 ≤ a ∧ a ≤ 9223372036854775807) (hb : -9223372036854775808 ≤ b ∧ b ≤ 9223372036854775807) : Ret 8 #[.int .i64 a, .int .i64 b] (.bool true) := by
  by_cases h : 9007199254740991 < a ∨ a < -9007199254740991 ∨ 9007199254740991 < b ∨ b < -9007199254740991
  · exact valueTurns_big a b h
  have H1 := Binary_num ⟨#[43]⟩ a b ByteArray.empty ByteArray.empty
  have H2 := Binary_num ⟨#[43]⟩ b a ByteArray.empty ByteArray.empty
  rw [binN_2, clamp_of a (by omega), clamp_of b (by omega)] at H1 H2
  rw [show b + a = a + b by omega] at H2
  by_cases h5 : absN (a + b) ≤ 9007199254740991
  · rw [show decide (absN (a + b) ≤ 9007199254740991) = true from by simpa using h5] at H1 H2
    have H3 := Binary_num ⟨#[45]⟩ (a + b) b ByteArray.empty ByteArray.empty
    have h6 : -9007199254740991 ≤ a + b ∧ a + b ≤ 9007199254740991 := by unfold absN at h5; omega
    rw [binN_3, clamp_of (a + b) h6, clamp_of b (by omega), show a + b - b = a by omega] at H3
    rw [show decide (absN a ≤ 9007199254740991) = true from by unfold absN; simp; omega] at H3
    have H5 := neg_num (-a) ByteArray.empty (by omega)
    rw [Int.neg_neg] at H5
    exact valueTurns_exact a b (by omega) (by omega) (by omega) (by omega) h6.1 h6.2 H1 H2 H3 (-a) (neg_num a _ (by omega)) H5
  · rw [show decide (absN (a + b) ≤ 9007199254740991) = false from by simpa using h5] at H1 H2
    exact valueTurns_inexact a b (a + b) (by omega) (by omega) (by omega) (by omega) rfl (by unfold absN at h5; omega) H1 H2
end Go.Proofs.YthjlhdldomfikaaDoor

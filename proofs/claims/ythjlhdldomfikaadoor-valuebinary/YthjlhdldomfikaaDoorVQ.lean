/- The reference's Binary of two numbers. -/
import Derived.Test.YthjlhdldomfikaaDoorVO
import Derived.Test.YthjlhdldomfikaaDoorVK
namespace Go.Proofs.YthjlhdldomfikaaDoor
set_option linter.unusedSimpArgs false
set_option linter.unusedVariables false
set_option maxRecDepth 100000
set_option maxHeartbeats 4000000
open Go.RowKit Go.Shelf

theorem box_box_out (W : World) (k n : Int) (t : ByteArray) (k' n' : Int) (t' : ByteArray) : ∃ W2, ((W.alloc (.cells #[.int .i64 k, .int .i64 n, .string t] 23)).alloc (.cells #[.int .i64 k', .int .i64 n', .string t'] 23)).alloc (.cells #[.int .i64 0, .int .i64 0, .string ⟨#[]⟩, .string ⟨#[]⟩, .int .i64 0] 28) = W2 ∧ Bv W2 W.heap.size k n t ∧ Bv W2 (W.heap.size + 1) k' n' t' ∧ Bo W2 (W.heap.size + 2) 0 0 ⟨#[]⟩ ⟨#[]⟩ 0 ∧ Below W.heap.size W W2 ∧ W2.heap.size = W.heap.size + 3 := by
  refine ⟨_, rfl, ((Bx.new W _ _).alloc _).alloc _, ?_, ?_, below_three _ _ _ _, by simp⟩
  · have := Bx.new (W.alloc (.cells #[.int .i64 k, .int .i64 n, .string t] 23)) (Vc k' n' t') 23
    rw [World.size_alloc] at this
    exact this.alloc _
  · have := Bx.new ((W.alloc (.cells #[.int .i64 k, .int .i64 n, .string t] 23)).alloc (.cells #[.int .i64 k', .int .i64 n', .string t'] 23)) (Oc 0 0 ⟨#[]⟩ ⟨#[]⟩ 0) 28
    rw [World.size_alloc, World.size_alloc] at this
    exact this
theorem rbn_add (a c : Int) (r : R5) (k0 n0 k1 n1 : Int) (t0 t1 : ByteArray) (J10 : Ret 26 #[.agg (Vc k0 n0 t0)] (.agg (Vc 3 a ByteArray.empty))) (J20 : Ret 26 #[.agg (Vc k1 n1 t1)] (.agg (Vc 3 c ByteArray.empty))) (HC0 : Ret 48 #[.string ⟨#[43]⟩, .int .i64 a, .int .i64 c] r.oc) : Ret 13 #[.string ⟨#[43]⟩, .agg (Vc k0 n0 t0), .agg (Vc k1 n1 t1)] r.oc := by
  intro W
  have J1 := hide J10
  have J2 := hide J20
  have HC := hide HC0
  unfold R5.oc Oc at HC
  clear HC0
  unfold Vc at J1 J2 ⊢
  clear J10 J20
  obtain ⟨W2, hW2, b1, b2, b3, hb, hz⟩ := box_box_out W k0 n0 t0 k1 n1 t1
  obtain ⟨c0, c1, c2, -, -, -, lt⟩ := b1.all
  have B2 := hide b2
  have B3 := hide b3
  have HB := hide hb
  clear b1 b2 b3 hb hz
  go_enter Tryd.func13, Tryd.ntmps13
  go_wp2_with (first
    | (go_at_call 26
       refine (unhide J1 _).mono ?_
       clear J1
       rintro e w1 ⟨rfl, hb1⟩
       obtain ⟨W3, hW3, e1, e3, e4⟩ := new_box w1 3 a ByteArray.empty
       have hb4 := Below.up hb1 e3
       (try have Z1 := hide ((unhide Z1).up hb4)); (try have Z2 := hide ((unhide Z2).up hb4)); have B2 := hide ((unhide B2).up hb4); have B3 := hide ((unhide B3).up hb4); have HB := hide (Below.up (unhide HB) hb4); clear hb4
       have Z1 := hide e1
       obtain ⟨x0, x1, x2, -, -, -, ly⟩ := (unhide B2).all
       (try obtain ⟨c0, c1, c2, -, -, -, lt⟩ := (unhide Z1).all); (try obtain ⟨x0, x1, x2, -, -, -, ly⟩ := (unhide Z2).all); obtain ⟨d0, d1, d2, d3, d4, g0, g1, g2, g3, g4, lt'⟩ := (unhide B3).all
       clear hb1 e1 e3 e4)
    | (go_at_call 26
       refine (unhide J2 _).mono ?_
       clear J2
       rintro e w1 ⟨rfl, hb1⟩
       obtain ⟨W3, hW3, e1, e3, e4⟩ := new_box w1 3 c ByteArray.empty
       have hb4 := Below.up hb1 e3
       (try have Z1 := hide ((unhide Z1).up hb4)); (try have Z2 := hide ((unhide Z2).up hb4)); have B2 := hide ((unhide B2).up hb4); have B3 := hide ((unhide B3).up hb4); have HB := hide (Below.up (unhide HB) hb4); clear hb4
       have Z2 := hide e1
       obtain ⟨x0, x1, x2, -, -, -, ly⟩ := (unhide B2).all
       (try obtain ⟨c0, c1, c2, -, -, -, lt⟩ := (unhide Z1).all); (try obtain ⟨x0, x1, x2, -, -, -, ly⟩ := (unhide Z2).all); obtain ⟨d0, d1, d2, d3, d4, g0, g1, g2, g3, g4, lt'⟩ := (unhide B3).all
       clear hb1 e1 e3 e4)
    | (go_at_call 48; refine (unhide HC _).mono ?_; rintro e w4 ⟨rfl, hb4⟩; (try have Z1 := hide ((unhide Z1).up hb4)); (try have Z2 := hide ((unhide Z2).up hb4)); have B2 := hide ((unhide B2).up hb4); have B3 := hide ((unhide B3).up hb4); have HB := hide (Below.up (unhide HB) hb4); clear hb4; (try obtain ⟨c0, c1, c2, -, -, -, lt⟩ := (unhide Z1).all); (try obtain ⟨x0, x1, x2, -, -, -, ly⟩ := (unhide Z2).all); obtain ⟨d0, d1, d2, d3, d4, g0, g1, g2, g3, g4, lt'⟩ := (unhide B3).all))
  exact ret_o Tryd.results13 rfl (unhide B3) rfl (unhide HB) (by omega) rfl
theorem rbn_sub (a c : Int) (r : R5) (k0 n0 k1 n1 : Int) (t0 t1 : ByteArray) (J10 : Ret 26 #[.agg (Vc k0 n0 t0)] (.agg (Vc 3 a ByteArray.empty))) (J20 : Ret 26 #[.agg (Vc k1 n1 t1)] (.agg (Vc 3 c ByteArray.empty))) (HC0 : Ret 48 #[.string ⟨#[45]⟩, .int .i64 a, .int .i64 c] r.oc) : Ret 13 #[.string ⟨#[45]⟩, .agg (Vc k0 n0 t0), .agg (Vc k1 n1 t1)] r.oc := by
  intro W
  have J1 := hide J10
  have J2 := hide J20
  have HC := hide HC0
  unfold R5.oc Oc at HC
  clear HC0
  unfold Vc at J1 J2 ⊢
  clear J10 J20
  obtain ⟨W2, hW2, b1, b2, b3, hb, hz⟩ := box_box_out W k0 n0 t0 k1 n1 t1
  obtain ⟨c0, c1, c2, -, -, -, lt⟩ := b1.all
  have B2 := hide b2
  have B3 := hide b3
  have HB := hide hb
  clear b1 b2 b3 hb hz
  go_enter Tryd.func13, Tryd.ntmps13
  go_wp2_with (first
    | (go_at_call 26
       refine (unhide J1 _).mono ?_
       clear J1
       rintro e w1 ⟨rfl, hb1⟩
       obtain ⟨W3, hW3, e1, e3, e4⟩ := new_box w1 3 a ByteArray.empty
       have hb4 := Below.up hb1 e3
       (try have Z1 := hide ((unhide Z1).up hb4)); (try have Z2 := hide ((unhide Z2).up hb4)); have B2 := hide ((unhide B2).up hb4); have B3 := hide ((unhide B3).up hb4); have HB := hide (Below.up (unhide HB) hb4); clear hb4
       have Z1 := hide e1
       obtain ⟨x0, x1, x2, -, -, -, ly⟩ := (unhide B2).all
       (try obtain ⟨c0, c1, c2, -, -, -, lt⟩ := (unhide Z1).all); (try obtain ⟨x0, x1, x2, -, -, -, ly⟩ := (unhide Z2).all); obtain ⟨d0, d1, d2, d3, d4, g0, g1, g2, g3, g4, lt'⟩ := (unhide B3).all
       clear hb1 e1 e3 e4)
    | (go_at_call 26
       refine (unhide J2 _).mono ?_
       clear J2
       rintro e w1 ⟨rfl, hb1⟩
       obtain ⟨W3, hW3, e1, e3, e4⟩ := new_box w1 3 c ByteArray.empty
       have hb4 := Below.up hb1 e3
       (try have Z1 := hide ((unhide Z1).up hb4)); (try have Z2 := hide ((unhide Z2).up hb4)); have B2 := hide ((unhide B2).up hb4); have B3 := hide ((unhide B3).up hb4); have HB := hide (Below.up (unhide HB) hb4); clear hb4
       have Z2 := hide e1
       obtain ⟨x0, x1, x2, -, -, -, ly⟩ := (unhide B2).all
       (try obtain ⟨c0, c1, c2, -, -, -, lt⟩ := (unhide Z1).all); (try obtain ⟨x0, x1, x2, -, -, -, ly⟩ := (unhide Z2).all); obtain ⟨d0, d1, d2, d3, d4, g0, g1, g2, g3, g4, lt'⟩ := (unhide B3).all
       clear hb1 e1 e3 e4)
    | (go_at_call 48; refine (unhide HC _).mono ?_; rintro e w4 ⟨rfl, hb4⟩; (try have Z1 := hide ((unhide Z1).up hb4)); (try have Z2 := hide ((unhide Z2).up hb4)); have B2 := hide ((unhide B2).up hb4); have B3 := hide ((unhide B3).up hb4); have HB := hide (Below.up (unhide HB) hb4); clear hb4; (try obtain ⟨c0, c1, c2, -, -, -, lt⟩ := (unhide Z1).all); (try obtain ⟨x0, x1, x2, -, -, -, ly⟩ := (unhide Z2).all); obtain ⟨d0, d1, d2, d3, d4, g0, g1, g2, g3, g4, lt'⟩ := (unhide B3).all))
  exact ret_o Tryd.results13 rfl (unhide B3) rfl (unhide HB) (by omega) rfl
theorem rbn_mul (a c : Int) (r : R5) (k0 n0 k1 n1 : Int) (t0 t1 : ByteArray) (J10 : Ret 26 #[.agg (Vc k0 n0 t0)] (.agg (Vc 3 a ByteArray.empty))) (J20 : Ret 26 #[.agg (Vc k1 n1 t1)] (.agg (Vc 3 c ByteArray.empty))) (HC0 : Ret 48 #[.string ⟨#[42]⟩, .int .i64 a, .int .i64 c] r.oc) : Ret 13 #[.string ⟨#[42]⟩, .agg (Vc k0 n0 t0), .agg (Vc k1 n1 t1)] r.oc := by
  intro W
  have J1 := hide J10
  have J2 := hide J20
  have HC := hide HC0
  unfold R5.oc Oc at HC
  clear HC0
  unfold Vc at J1 J2 ⊢
  clear J10 J20
  obtain ⟨W2, hW2, b1, b2, b3, hb, hz⟩ := box_box_out W k0 n0 t0 k1 n1 t1
  obtain ⟨c0, c1, c2, -, -, -, lt⟩ := b1.all
  have B2 := hide b2
  have B3 := hide b3
  have HB := hide hb
  clear b1 b2 b3 hb hz
  go_enter Tryd.func13, Tryd.ntmps13
  go_wp2_with (first
    | (go_at_call 26
       refine (unhide J1 _).mono ?_
       clear J1
       rintro e w1 ⟨rfl, hb1⟩
       obtain ⟨W3, hW3, e1, e3, e4⟩ := new_box w1 3 a ByteArray.empty
       have hb4 := Below.up hb1 e3
       (try have Z1 := hide ((unhide Z1).up hb4)); (try have Z2 := hide ((unhide Z2).up hb4)); have B2 := hide ((unhide B2).up hb4); have B3 := hide ((unhide B3).up hb4); have HB := hide (Below.up (unhide HB) hb4); clear hb4
       have Z1 := hide e1
       obtain ⟨x0, x1, x2, -, -, -, ly⟩ := (unhide B2).all
       (try obtain ⟨c0, c1, c2, -, -, -, lt⟩ := (unhide Z1).all); (try obtain ⟨x0, x1, x2, -, -, -, ly⟩ := (unhide Z2).all); obtain ⟨d0, d1, d2, d3, d4, g0, g1, g2, g3, g4, lt'⟩ := (unhide B3).all
       clear hb1 e1 e3 e4)
    | (go_at_call 26
       refine (unhide J2 _).mono ?_
       clear J2
       rintro e w1 ⟨rfl, hb1⟩
       obtain ⟨W3, hW3, e1, e3, e4⟩ := new_box w1 3 c ByteArray.empty
       have hb4 := Below.up hb1 e3
       (try have Z1 := hide ((unhide Z1).up hb4)); (try have Z2 := hide ((unhide Z2).up hb4)); have B2 := hide ((unhide B2).up hb4); have B3 := hide ((unhide B3).up hb4); have HB := hide (Below.up (unhide HB) hb4); clear hb4
       have Z2 := hide e1
       obtain ⟨x0, x1, x2, -, -, -, ly⟩ := (unhide B2).all
       (try obtain ⟨c0, c1, c2, -, -, -, lt⟩ := (unhide Z1).all); (try obtain ⟨x0, x1, x2, -, -, -, ly⟩ := (unhide Z2).all); obtain ⟨d0, d1, d2, d3, d4, g0, g1, g2, g3, g4, lt'⟩ := (unhide B3).all
       clear hb1 e1 e3 e4)
    | (go_at_call 48; refine (unhide HC _).mono ?_; rintro e w4 ⟨rfl, hb4⟩; (try have Z1 := hide ((unhide Z1).up hb4)); (try have Z2 := hide ((unhide Z2).up hb4)); have B2 := hide ((unhide B2).up hb4); have B3 := hide ((unhide B3).up hb4); have HB := hide (Below.up (unhide HB) hb4); clear hb4; (try obtain ⟨c0, c1, c2, -, -, -, lt⟩ := (unhide Z1).all); (try obtain ⟨x0, x1, x2, -, -, -, ly⟩ := (unhide Z2).all); obtain ⟨d0, d1, d2, d3, d4, g0, g1, g2, g3, g4, lt'⟩ := (unhide B3).all))
  exact ret_o Tryd.results13 rfl (unhide B3) rfl (unhide HB) (by omega) rfl
theorem rbn_rem (a c : Int) (r : R5) (k0 n0 k1 n1 : Int) (t0 t1 : ByteArray) (J10 : Ret 26 #[.agg (Vc k0 n0 t0)] (.agg (Vc 3 a ByteArray.empty))) (J20 : Ret 26 #[.agg (Vc k1 n1 t1)] (.agg (Vc 3 c ByteArray.empty))) (HC0 : Ret 48 #[.string ⟨#[37]⟩, .int .i64 a, .int .i64 c] r.oc) : Ret 13 #[.string ⟨#[37]⟩, .agg (Vc k0 n0 t0), .agg (Vc k1 n1 t1)] r.oc := by
  intro W
  have J1 := hide J10
  have J2 := hide J20
  have HC := hide HC0
  unfold R5.oc Oc at HC
  clear HC0
  unfold Vc at J1 J2 ⊢
  clear J10 J20
  obtain ⟨W2, hW2, b1, b2, b3, hb, hz⟩ := box_box_out W k0 n0 t0 k1 n1 t1
  obtain ⟨c0, c1, c2, -, -, -, lt⟩ := b1.all
  have B2 := hide b2
  have B3 := hide b3
  have HB := hide hb
  clear b1 b2 b3 hb hz
  go_enter Tryd.func13, Tryd.ntmps13
  go_wp2_with (first
    | (go_at_call 26
       refine (unhide J1 _).mono ?_
       clear J1
       rintro e w1 ⟨rfl, hb1⟩
       obtain ⟨W3, hW3, e1, e3, e4⟩ := new_box w1 3 a ByteArray.empty
       have hb4 := Below.up hb1 e3
       (try have Z1 := hide ((unhide Z1).up hb4)); (try have Z2 := hide ((unhide Z2).up hb4)); have B2 := hide ((unhide B2).up hb4); have B3 := hide ((unhide B3).up hb4); have HB := hide (Below.up (unhide HB) hb4); clear hb4
       have Z1 := hide e1
       obtain ⟨x0, x1, x2, -, -, -, ly⟩ := (unhide B2).all
       (try obtain ⟨c0, c1, c2, -, -, -, lt⟩ := (unhide Z1).all); (try obtain ⟨x0, x1, x2, -, -, -, ly⟩ := (unhide Z2).all); obtain ⟨d0, d1, d2, d3, d4, g0, g1, g2, g3, g4, lt'⟩ := (unhide B3).all
       clear hb1 e1 e3 e4)
    | (go_at_call 26
       refine (unhide J2 _).mono ?_
       clear J2
       rintro e w1 ⟨rfl, hb1⟩
       obtain ⟨W3, hW3, e1, e3, e4⟩ := new_box w1 3 c ByteArray.empty
       have hb4 := Below.up hb1 e3
       (try have Z1 := hide ((unhide Z1).up hb4)); (try have Z2 := hide ((unhide Z2).up hb4)); have B2 := hide ((unhide B2).up hb4); have B3 := hide ((unhide B3).up hb4); have HB := hide (Below.up (unhide HB) hb4); clear hb4
       have Z2 := hide e1
       obtain ⟨x0, x1, x2, -, -, -, ly⟩ := (unhide B2).all
       (try obtain ⟨c0, c1, c2, -, -, -, lt⟩ := (unhide Z1).all); (try obtain ⟨x0, x1, x2, -, -, -, ly⟩ := (unhide Z2).all); obtain ⟨d0, d1, d2, d3, d4, g0, g1, g2, g3, g4, lt'⟩ := (unhide B3).all
       clear hb1 e1 e3 e4)
    | (go_at_call 48; refine (unhide HC _).mono ?_; rintro e w4 ⟨rfl, hb4⟩; (try have Z1 := hide ((unhide Z1).up hb4)); (try have Z2 := hide ((unhide Z2).up hb4)); have B2 := hide ((unhide B2).up hb4); have B3 := hide ((unhide B3).up hb4); have HB := hide (Below.up (unhide HB) hb4); clear hb4; (try obtain ⟨c0, c1, c2, -, -, -, lt⟩ := (unhide Z1).all); (try obtain ⟨x0, x1, x2, -, -, -, ly⟩ := (unhide Z2).all); obtain ⟨d0, d1, d2, d3, d4, g0, g1, g2, g3, g4, lt'⟩ := (unhide B3).all))
  exact ret_o Tryd.results13 rfl (unhide B3) rfl (unhide HB) (by omega) rfl
theorem rbn_and (a c : Int) (r : R5) (k0 n0 k1 n1 : Int) (t0 t1 : ByteArray) (J10 : Ret 26 #[.agg (Vc k0 n0 t0)] (.agg (Vc 3 a ByteArray.empty))) (J20 : Ret 26 #[.agg (Vc k1 n1 t1)] (.agg (Vc 3 c ByteArray.empty))) (HC0 : Ret 48 #[.string ⟨#[38]⟩, .int .i64 a, .int .i64 c] r.oc) : Ret 13 #[.string ⟨#[38]⟩, .agg (Vc k0 n0 t0), .agg (Vc k1 n1 t1)] r.oc := by
  intro W
  have J1 := hide J10
  have J2 := hide J20
  have HC := hide HC0
  unfold R5.oc Oc at HC
  clear HC0
  unfold Vc at J1 J2 ⊢
  clear J10 J20
  obtain ⟨W2, hW2, b1, b2, b3, hb, hz⟩ := box_box_out W k0 n0 t0 k1 n1 t1
  obtain ⟨c0, c1, c2, -, -, -, lt⟩ := b1.all
  have B2 := hide b2
  have B3 := hide b3
  have HB := hide hb
  clear b1 b2 b3 hb hz
  go_enter Tryd.func13, Tryd.ntmps13
  go_wp2_with (first
    | (go_at_call 26
       refine (unhide J1 _).mono ?_
       clear J1
       rintro e w1 ⟨rfl, hb1⟩
       obtain ⟨W3, hW3, e1, e3, e4⟩ := new_box w1 3 a ByteArray.empty
       have hb4 := Below.up hb1 e3
       (try have Z1 := hide ((unhide Z1).up hb4)); (try have Z2 := hide ((unhide Z2).up hb4)); have B2 := hide ((unhide B2).up hb4); have B3 := hide ((unhide B3).up hb4); have HB := hide (Below.up (unhide HB) hb4); clear hb4
       have Z1 := hide e1
       obtain ⟨x0, x1, x2, -, -, -, ly⟩ := (unhide B2).all
       (try obtain ⟨c0, c1, c2, -, -, -, lt⟩ := (unhide Z1).all); (try obtain ⟨x0, x1, x2, -, -, -, ly⟩ := (unhide Z2).all); obtain ⟨d0, d1, d2, d3, d4, g0, g1, g2, g3, g4, lt'⟩ := (unhide B3).all
       clear hb1 e1 e3 e4)
    | (go_at_call 26
       refine (unhide J2 _).mono ?_
       clear J2
       rintro e w1 ⟨rfl, hb1⟩
       obtain ⟨W3, hW3, e1, e3, e4⟩ := new_box w1 3 c ByteArray.empty
       have hb4 := Below.up hb1 e3
       (try have Z1 := hide ((unhide Z1).up hb4)); (try have Z2 := hide ((unhide Z2).up hb4)); have B2 := hide ((unhide B2).up hb4); have B3 := hide ((unhide B3).up hb4); have HB := hide (Below.up (unhide HB) hb4); clear hb4
       have Z2 := hide e1
       obtain ⟨x0, x1, x2, -, -, -, ly⟩ := (unhide B2).all
       (try obtain ⟨c0, c1, c2, -, -, -, lt⟩ := (unhide Z1).all); (try obtain ⟨x0, x1, x2, -, -, -, ly⟩ := (unhide Z2).all); obtain ⟨d0, d1, d2, d3, d4, g0, g1, g2, g3, g4, lt'⟩ := (unhide B3).all
       clear hb1 e1 e3 e4)
    | (go_at_call 48; refine (unhide HC _).mono ?_; rintro e w4 ⟨rfl, hb4⟩; (try have Z1 := hide ((unhide Z1).up hb4)); (try have Z2 := hide ((unhide Z2).up hb4)); have B2 := hide ((unhide B2).up hb4); have B3 := hide ((unhide B3).up hb4); have HB := hide (Below.up (unhide HB) hb4); clear hb4; (try obtain ⟨c0, c1, c2, -, -, -, lt⟩ := (unhide Z1).all); (try obtain ⟨x0, x1, x2, -, -, -, ly⟩ := (unhide Z2).all); obtain ⟨d0, d1, d2, d3, d4, g0, g1, g2, g3, g4, lt'⟩ := (unhide B3).all))
  exact ret_o Tryd.results13 rfl (unhide B3) rfl (unhide HB) (by omega) rfl
theorem rbn_or (a c : Int) (r : R5) (k0 n0 k1 n1 : Int) (t0 t1 : ByteArray) (J10 : Ret 26 #[.agg (Vc k0 n0 t0)] (.agg (Vc 3 a ByteArray.empty))) (J20 : Ret 26 #[.agg (Vc k1 n1 t1)] (.agg (Vc 3 c ByteArray.empty))) (HC0 : Ret 48 #[.string ⟨#[124]⟩, .int .i64 a, .int .i64 c] r.oc) : Ret 13 #[.string ⟨#[124]⟩, .agg (Vc k0 n0 t0), .agg (Vc k1 n1 t1)] r.oc := by
  intro W
  have J1 := hide J10
  have J2 := hide J20
  have HC := hide HC0
  unfold R5.oc Oc at HC
  clear HC0
  unfold Vc at J1 J2 ⊢
  clear J10 J20
  obtain ⟨W2, hW2, b1, b2, b3, hb, hz⟩ := box_box_out W k0 n0 t0 k1 n1 t1
  obtain ⟨c0, c1, c2, -, -, -, lt⟩ := b1.all
  have B2 := hide b2
  have B3 := hide b3
  have HB := hide hb
  clear b1 b2 b3 hb hz
  go_enter Tryd.func13, Tryd.ntmps13
  go_wp2_with (first
    | (go_at_call 26
       refine (unhide J1 _).mono ?_
       clear J1
       rintro e w1 ⟨rfl, hb1⟩
       obtain ⟨W3, hW3, e1, e3, e4⟩ := new_box w1 3 a ByteArray.empty
       have hb4 := Below.up hb1 e3
       (try have Z1 := hide ((unhide Z1).up hb4)); (try have Z2 := hide ((unhide Z2).up hb4)); have B2 := hide ((unhide B2).up hb4); have B3 := hide ((unhide B3).up hb4); have HB := hide (Below.up (unhide HB) hb4); clear hb4
       have Z1 := hide e1
       obtain ⟨x0, x1, x2, -, -, -, ly⟩ := (unhide B2).all
       (try obtain ⟨c0, c1, c2, -, -, -, lt⟩ := (unhide Z1).all); (try obtain ⟨x0, x1, x2, -, -, -, ly⟩ := (unhide Z2).all); obtain ⟨d0, d1, d2, d3, d4, g0, g1, g2, g3, g4, lt'⟩ := (unhide B3).all
       clear hb1 e1 e3 e4)
    | (go_at_call 26
       refine (unhide J2 _).mono ?_
       clear J2
       rintro e w1 ⟨rfl, hb1⟩
       obtain ⟨W3, hW3, e1, e3, e4⟩ := new_box w1 3 c ByteArray.empty
       have hb4 := Below.up hb1 e3
       (try have Z1 := hide ((unhide Z1).up hb4)); (try have Z2 := hide ((unhide Z2).up hb4)); have B2 := hide ((unhide B2).up hb4); have B3 := hide ((unhide B3).up hb4); have HB := hide (Below.up (unhide HB) hb4); clear hb4
       have Z2 := hide e1
       obtain ⟨x0, x1, x2, -, -, -, ly⟩ := (unhide B2).all
       (try obtain ⟨c0, c1, c2, -, -, -, lt⟩ := (unhide Z1).all); (try obtain ⟨x0, x1, x2, -, -, -, ly⟩ := (unhide Z2).all); obtain ⟨d0, d1, d2, d3, d4, g0, g1, g2, g3, g4, lt'⟩ := (unhide B3).all
       clear hb1 e1 e3 e4)
    | (go_at_call 48; refine (unhide HC _).mono ?_; rintro e w4 ⟨rfl, hb4⟩; (try have Z1 := hide ((unhide Z1).up hb4)); (try have Z2 := hide ((unhide Z2).up hb4)); have B2 := hide ((unhide B2).up hb4); have B3 := hide ((unhide B3).up hb4); have HB := hide (Below.up (unhide HB) hb4); clear hb4; (try obtain ⟨c0, c1, c2, -, -, -, lt⟩ := (unhide Z1).all); (try obtain ⟨x0, x1, x2, -, -, -, ly⟩ := (unhide Z2).all); obtain ⟨d0, d1, d2, d3, d4, g0, g1, g2, g3, g4, lt'⟩ := (unhide B3).all))
  exact ret_o Tryd.results13 rfl (unhide B3) rfl (unhide HB) (by omega) rfl
theorem rbn_xor (a c : Int) (r : R5) (k0 n0 k1 n1 : Int) (t0 t1 : ByteArray) (J10 : Ret 26 #[.agg (Vc k0 n0 t0)] (.agg (Vc 3 a ByteArray.empty))) (J20 : Ret 26 #[.agg (Vc k1 n1 t1)] (.agg (Vc 3 c ByteArray.empty))) (HC0 : Ret 48 #[.string ⟨#[94]⟩, .int .i64 a, .int .i64 c] r.oc) : Ret 13 #[.string ⟨#[94]⟩, .agg (Vc k0 n0 t0), .agg (Vc k1 n1 t1)] r.oc := by
  intro W
  have J1 := hide J10
  have J2 := hide J20
  have HC := hide HC0
  unfold R5.oc Oc at HC
  clear HC0
  unfold Vc at J1 J2 ⊢
  clear J10 J20
  obtain ⟨W2, hW2, b1, b2, b3, hb, hz⟩ := box_box_out W k0 n0 t0 k1 n1 t1
  obtain ⟨c0, c1, c2, -, -, -, lt⟩ := b1.all
  have B2 := hide b2
  have B3 := hide b3
  have HB := hide hb
  clear b1 b2 b3 hb hz
  go_enter Tryd.func13, Tryd.ntmps13
  go_wp2_with (first
    | (go_at_call 26
       refine (unhide J1 _).mono ?_
       clear J1
       rintro e w1 ⟨rfl, hb1⟩
       obtain ⟨W3, hW3, e1, e3, e4⟩ := new_box w1 3 a ByteArray.empty
       have hb4 := Below.up hb1 e3
       (try have Z1 := hide ((unhide Z1).up hb4)); (try have Z2 := hide ((unhide Z2).up hb4)); have B2 := hide ((unhide B2).up hb4); have B3 := hide ((unhide B3).up hb4); have HB := hide (Below.up (unhide HB) hb4); clear hb4
       have Z1 := hide e1
       obtain ⟨x0, x1, x2, -, -, -, ly⟩ := (unhide B2).all
       (try obtain ⟨c0, c1, c2, -, -, -, lt⟩ := (unhide Z1).all); (try obtain ⟨x0, x1, x2, -, -, -, ly⟩ := (unhide Z2).all); obtain ⟨d0, d1, d2, d3, d4, g0, g1, g2, g3, g4, lt'⟩ := (unhide B3).all
       clear hb1 e1 e3 e4)
    | (go_at_call 26
       refine (unhide J2 _).mono ?_
       clear J2
       rintro e w1 ⟨rfl, hb1⟩
       obtain ⟨W3, hW3, e1, e3, e4⟩ := new_box w1 3 c ByteArray.empty
       have hb4 := Below.up hb1 e3
       (try have Z1 := hide ((unhide Z1).up hb4)); (try have Z2 := hide ((unhide Z2).up hb4)); have B2 := hide ((unhide B2).up hb4); have B3 := hide ((unhide B3).up hb4); have HB := hide (Below.up (unhide HB) hb4); clear hb4
       have Z2 := hide e1
       obtain ⟨x0, x1, x2, -, -, -, ly⟩ := (unhide B2).all
       (try obtain ⟨c0, c1, c2, -, -, -, lt⟩ := (unhide Z1).all); (try obtain ⟨x0, x1, x2, -, -, -, ly⟩ := (unhide Z2).all); obtain ⟨d0, d1, d2, d3, d4, g0, g1, g2, g3, g4, lt'⟩ := (unhide B3).all
       clear hb1 e1 e3 e4)
    | (go_at_call 48; refine (unhide HC _).mono ?_; rintro e w4 ⟨rfl, hb4⟩; (try have Z1 := hide ((unhide Z1).up hb4)); (try have Z2 := hide ((unhide Z2).up hb4)); have B2 := hide ((unhide B2).up hb4); have B3 := hide ((unhide B3).up hb4); have HB := hide (Below.up (unhide HB) hb4); clear hb4; (try obtain ⟨c0, c1, c2, -, -, -, lt⟩ := (unhide Z1).all); (try obtain ⟨x0, x1, x2, -, -, -, ly⟩ := (unhide Z2).all); obtain ⟨d0, d1, d2, d3, d4, g0, g1, g2, g3, g4, lt'⟩ := (unhide B3).all))
  exact ret_o Tryd.results13 rfl (unhide B3) rfl (unhide HB) (by omega) rfl
theorem rbn_shl (a c : Int) (r : R5) (k0 n0 k1 n1 : Int) (t0 t1 : ByteArray) (J10 : Ret 26 #[.agg (Vc k0 n0 t0)] (.agg (Vc 3 a ByteArray.empty))) (J20 : Ret 26 #[.agg (Vc k1 n1 t1)] (.agg (Vc 3 c ByteArray.empty))) (HC0 : Ret 48 #[.string ⟨#[60, 60]⟩, .int .i64 a, .int .i64 c] r.oc) : Ret 13 #[.string ⟨#[60, 60]⟩, .agg (Vc k0 n0 t0), .agg (Vc k1 n1 t1)] r.oc := by
  intro W
  have J1 := hide J10
  have J2 := hide J20
  have HC := hide HC0
  unfold R5.oc Oc at HC
  clear HC0
  unfold Vc at J1 J2 ⊢
  clear J10 J20
  obtain ⟨W2, hW2, b1, b2, b3, hb, hz⟩ := box_box_out W k0 n0 t0 k1 n1 t1
  obtain ⟨c0, c1, c2, -, -, -, lt⟩ := b1.all
  have B2 := hide b2
  have B3 := hide b3
  have HB := hide hb
  clear b1 b2 b3 hb hz
  go_enter Tryd.func13, Tryd.ntmps13
  go_wp2_with (first
    | (go_at_call 26
       refine (unhide J1 _).mono ?_
       clear J1
       rintro e w1 ⟨rfl, hb1⟩
       obtain ⟨W3, hW3, e1, e3, e4⟩ := new_box w1 3 a ByteArray.empty
       have hb4 := Below.up hb1 e3
       (try have Z1 := hide ((unhide Z1).up hb4)); (try have Z2 := hide ((unhide Z2).up hb4)); have B2 := hide ((unhide B2).up hb4); have B3 := hide ((unhide B3).up hb4); have HB := hide (Below.up (unhide HB) hb4); clear hb4
       have Z1 := hide e1
       obtain ⟨x0, x1, x2, -, -, -, ly⟩ := (unhide B2).all
       (try obtain ⟨c0, c1, c2, -, -, -, lt⟩ := (unhide Z1).all); (try obtain ⟨x0, x1, x2, -, -, -, ly⟩ := (unhide Z2).all); obtain ⟨d0, d1, d2, d3, d4, g0, g1, g2, g3, g4, lt'⟩ := (unhide B3).all
       clear hb1 e1 e3 e4)
    | (go_at_call 26
       refine (unhide J2 _).mono ?_
       clear J2
       rintro e w1 ⟨rfl, hb1⟩
       obtain ⟨W3, hW3, e1, e3, e4⟩ := new_box w1 3 c ByteArray.empty
       have hb4 := Below.up hb1 e3
       (try have Z1 := hide ((unhide Z1).up hb4)); (try have Z2 := hide ((unhide Z2).up hb4)); have B2 := hide ((unhide B2).up hb4); have B3 := hide ((unhide B3).up hb4); have HB := hide (Below.up (unhide HB) hb4); clear hb4
       have Z2 := hide e1
       obtain ⟨x0, x1, x2, -, -, -, ly⟩ := (unhide B2).all
       (try obtain ⟨c0, c1, c2, -, -, -, lt⟩ := (unhide Z1).all); (try obtain ⟨x0, x1, x2, -, -, -, ly⟩ := (unhide Z2).all); obtain ⟨d0, d1, d2, d3, d4, g0, g1, g2, g3, g4, lt'⟩ := (unhide B3).all
       clear hb1 e1 e3 e4)
    | (go_at_call 48; refine (unhide HC _).mono ?_; rintro e w4 ⟨rfl, hb4⟩; (try have Z1 := hide ((unhide Z1).up hb4)); (try have Z2 := hide ((unhide Z2).up hb4)); have B2 := hide ((unhide B2).up hb4); have B3 := hide ((unhide B3).up hb4); have HB := hide (Below.up (unhide HB) hb4); clear hb4; (try obtain ⟨c0, c1, c2, -, -, -, lt⟩ := (unhide Z1).all); (try obtain ⟨x0, x1, x2, -, -, -, ly⟩ := (unhide Z2).all); obtain ⟨d0, d1, d2, d3, d4, g0, g1, g2, g3, g4, lt'⟩ := (unhide B3).all))
  exact ret_o Tryd.results13 rfl (unhide B3) rfl (unhide HB) (by omega) rfl
theorem rbn_shr (a c : Int) (r : R5) (k0 n0 k1 n1 : Int) (t0 t1 : ByteArray) (J10 : Ret 26 #[.agg (Vc k0 n0 t0)] (.agg (Vc 3 a ByteArray.empty))) (J20 : Ret 26 #[.agg (Vc k1 n1 t1)] (.agg (Vc 3 c ByteArray.empty))) (HC0 : Ret 48 #[.string ⟨#[62, 62]⟩, .int .i64 a, .int .i64 c] r.oc) : Ret 13 #[.string ⟨#[62, 62]⟩, .agg (Vc k0 n0 t0), .agg (Vc k1 n1 t1)] r.oc := by
  intro W
  have J1 := hide J10
  have J2 := hide J20
  have HC := hide HC0
  unfold R5.oc Oc at HC
  clear HC0
  unfold Vc at J1 J2 ⊢
  clear J10 J20
  obtain ⟨W2, hW2, b1, b2, b3, hb, hz⟩ := box_box_out W k0 n0 t0 k1 n1 t1
  obtain ⟨c0, c1, c2, -, -, -, lt⟩ := b1.all
  have B2 := hide b2
  have B3 := hide b3
  have HB := hide hb
  clear b1 b2 b3 hb hz
  go_enter Tryd.func13, Tryd.ntmps13
  go_wp2_with (first
    | (go_at_call 26
       refine (unhide J1 _).mono ?_
       clear J1
       rintro e w1 ⟨rfl, hb1⟩
       obtain ⟨W3, hW3, e1, e3, e4⟩ := new_box w1 3 a ByteArray.empty
       have hb4 := Below.up hb1 e3
       (try have Z1 := hide ((unhide Z1).up hb4)); (try have Z2 := hide ((unhide Z2).up hb4)); have B2 := hide ((unhide B2).up hb4); have B3 := hide ((unhide B3).up hb4); have HB := hide (Below.up (unhide HB) hb4); clear hb4
       have Z1 := hide e1
       obtain ⟨x0, x1, x2, -, -, -, ly⟩ := (unhide B2).all
       (try obtain ⟨c0, c1, c2, -, -, -, lt⟩ := (unhide Z1).all); (try obtain ⟨x0, x1, x2, -, -, -, ly⟩ := (unhide Z2).all); obtain ⟨d0, d1, d2, d3, d4, g0, g1, g2, g3, g4, lt'⟩ := (unhide B3).all
       clear hb1 e1 e3 e4)
    | (go_at_call 26
       refine (unhide J2 _).mono ?_
       clear J2
       rintro e w1 ⟨rfl, hb1⟩
       obtain ⟨W3, hW3, e1, e3, e4⟩ := new_box w1 3 c ByteArray.empty
       have hb4 := Below.up hb1 e3
       (try have Z1 := hide ((unhide Z1).up hb4)); (try have Z2 := hide ((unhide Z2).up hb4)); have B2 := hide ((unhide B2).up hb4); have B3 := hide ((unhide B3).up hb4); have HB := hide (Below.up (unhide HB) hb4); clear hb4
       have Z2 := hide e1
       obtain ⟨x0, x1, x2, -, -, -, ly⟩ := (unhide B2).all
       (try obtain ⟨c0, c1, c2, -, -, -, lt⟩ := (unhide Z1).all); (try obtain ⟨x0, x1, x2, -, -, -, ly⟩ := (unhide Z2).all); obtain ⟨d0, d1, d2, d3, d4, g0, g1, g2, g3, g4, lt'⟩ := (unhide B3).all
       clear hb1 e1 e3 e4)
    | (go_at_call 48; refine (unhide HC _).mono ?_; rintro e w4 ⟨rfl, hb4⟩; (try have Z1 := hide ((unhide Z1).up hb4)); (try have Z2 := hide ((unhide Z2).up hb4)); have B2 := hide ((unhide B2).up hb4); have B3 := hide ((unhide B3).up hb4); have HB := hide (Below.up (unhide HB) hb4); clear hb4; (try obtain ⟨c0, c1, c2, -, -, -, lt⟩ := (unhide Z1).all); (try obtain ⟨x0, x1, x2, -, -, -, ly⟩ := (unhide Z2).all); obtain ⟨d0, d1, d2, d3, d4, g0, g1, g2, g3, g4, lt'⟩ := (unhide B3).all))
  exact ret_o Tryd.results13 rfl (unhide B3) rfl (unhide HB) (by omega) rfl
theorem rbn_shn (a c : Int) (r : R5) (k0 n0 k1 n1 : Int) (t0 t1 : ByteArray) (J10 : Ret 26 #[.agg (Vc k0 n0 t0)] (.agg (Vc 3 a ByteArray.empty))) (J20 : Ret 26 #[.agg (Vc k1 n1 t1)] (.agg (Vc 3 c ByteArray.empty))) (HC0 : Ret 48 #[.string ⟨#[62, 62, 62]⟩, .int .i64 a, .int .i64 c] r.oc) : Ret 13 #[.string ⟨#[62, 62, 62]⟩, .agg (Vc k0 n0 t0), .agg (Vc k1 n1 t1)] r.oc := by
  intro W
  have J1 := hide J10
  have J2 := hide J20
  have HC := hide HC0
  unfold R5.oc Oc at HC
  clear HC0
  unfold Vc at J1 J2 ⊢
  clear J10 J20
  obtain ⟨W2, hW2, b1, b2, b3, hb, hz⟩ := box_box_out W k0 n0 t0 k1 n1 t1
  obtain ⟨c0, c1, c2, -, -, -, lt⟩ := b1.all
  have B2 := hide b2
  have B3 := hide b3
  have HB := hide hb
  clear b1 b2 b3 hb hz
  go_enter Tryd.func13, Tryd.ntmps13
  go_wp2_with (first
    | (go_at_call 26
       refine (unhide J1 _).mono ?_
       clear J1
       rintro e w1 ⟨rfl, hb1⟩
       obtain ⟨W3, hW3, e1, e3, e4⟩ := new_box w1 3 a ByteArray.empty
       have hb4 := Below.up hb1 e3
       (try have Z1 := hide ((unhide Z1).up hb4)); (try have Z2 := hide ((unhide Z2).up hb4)); have B2 := hide ((unhide B2).up hb4); have B3 := hide ((unhide B3).up hb4); have HB := hide (Below.up (unhide HB) hb4); clear hb4
       have Z1 := hide e1
       obtain ⟨x0, x1, x2, -, -, -, ly⟩ := (unhide B2).all
       (try obtain ⟨c0, c1, c2, -, -, -, lt⟩ := (unhide Z1).all); (try obtain ⟨x0, x1, x2, -, -, -, ly⟩ := (unhide Z2).all); obtain ⟨d0, d1, d2, d3, d4, g0, g1, g2, g3, g4, lt'⟩ := (unhide B3).all
       clear hb1 e1 e3 e4)
    | (go_at_call 26
       refine (unhide J2 _).mono ?_
       clear J2
       rintro e w1 ⟨rfl, hb1⟩
       obtain ⟨W3, hW3, e1, e3, e4⟩ := new_box w1 3 c ByteArray.empty
       have hb4 := Below.up hb1 e3
       (try have Z1 := hide ((unhide Z1).up hb4)); (try have Z2 := hide ((unhide Z2).up hb4)); have B2 := hide ((unhide B2).up hb4); have B3 := hide ((unhide B3).up hb4); have HB := hide (Below.up (unhide HB) hb4); clear hb4
       have Z2 := hide e1
       obtain ⟨x0, x1, x2, -, -, -, ly⟩ := (unhide B2).all
       (try obtain ⟨c0, c1, c2, -, -, -, lt⟩ := (unhide Z1).all); (try obtain ⟨x0, x1, x2, -, -, -, ly⟩ := (unhide Z2).all); obtain ⟨d0, d1, d2, d3, d4, g0, g1, g2, g3, g4, lt'⟩ := (unhide B3).all
       clear hb1 e1 e3 e4)
    | (go_at_call 48; refine (unhide HC _).mono ?_; rintro e w4 ⟨rfl, hb4⟩; (try have Z1 := hide ((unhide Z1).up hb4)); (try have Z2 := hide ((unhide Z2).up hb4)); have B2 := hide ((unhide B2).up hb4); have B3 := hide ((unhide B3).up hb4); have HB := hide (Below.up (unhide HB) hb4); clear hb4; (try obtain ⟨c0, c1, c2, -, -, -, lt⟩ := (unhide Z1).all); (try obtain ⟨x0, x1, x2, -, -, -, ly⟩ := (unhide Z2).all); obtain ⟨d0, d1, d2, d3, d4, g0, g1, g2, g3, g4, lt'⟩ := (unhide B3).all))
  exact ret_o Tryd.results13 rfl (unhide B3) rfl (unhide HB) (by omega) rfl
theorem rbn_lt (a c : Int) (q : Bool) (k0 n0 k1 n1 : Int) (t0 t1 : ByteArray) (J10 : Ret 26 #[.agg (Vc k0 n0 t0)] (.agg (Vc 3 a ByteArray.empty))) (J20 : Ret 26 #[.agg (Vc k1 n1 t1)] (.agg (Vc 3 c ByteArray.empty))) (h1 : -9007199254740991 ≤ a) (h2 : a ≤ 9007199254740991) (h3 : -9007199254740991 ≤ c) (h4 : c ≤ 9007199254740991) (HC0 : Ret 50 #[.string ⟨#[60]⟩, .int .i64 (a - c)] (.bool q)) : Ret 13 #[.string ⟨#[60]⟩, .agg (Vc k0 n0 t0), .agg (Vc k1 n1 t1)] (.agg (Oc 2 (bI q) ByteArray.empty ⟨#[]⟩ 0)) := by
  intro W
  have J1 := hide J10
  have J2 := hide J20
  have HC := hide HC0
  clear HC0
  unfold Vc at J1 J2 ⊢
  clear J10 J20
  obtain ⟨W2, hW2, b1, b2, b3, hb, hz⟩ := box_box_out W k0 n0 t0 k1 n1 t1
  obtain ⟨c0, c1, c2, -, -, -, lt⟩ := b1.all
  have B2 := hide b2
  have B3 := hide b3
  have HB := hide hb
  clear b1 b2 b3 hb hz
  go_enter Tryd.func13, Tryd.ntmps13
  go_wp2_with (first
    | (go_at_call 26
       refine (unhide J1 _).mono ?_
       clear J1
       rintro e w1 ⟨rfl, hb1⟩
       obtain ⟨W3, hW3, e1, e3, e4⟩ := new_box w1 3 a ByteArray.empty
       have hb4 := Below.up hb1 e3
       (try have Z1 := hide ((unhide Z1).up hb4)); (try have Z2 := hide ((unhide Z2).up hb4)); have B2 := hide ((unhide B2).up hb4); have B3 := hide ((unhide B3).up hb4); have HB := hide (Below.up (unhide HB) hb4); clear hb4
       have Z1 := hide e1
       obtain ⟨x0, x1, x2, -, -, -, ly⟩ := (unhide B2).all
       (try obtain ⟨c0, c1, c2, -, -, -, lt⟩ := (unhide Z1).all); (try obtain ⟨x0, x1, x2, -, -, -, ly⟩ := (unhide Z2).all); obtain ⟨d0, d1, d2, d3, d4, g0, g1, g2, g3, g4, lt'⟩ := (unhide B3).all
       clear hb1 e1 e3 e4)
    | (go_at_call 26
       refine (unhide J2 _).mono ?_
       clear J2
       rintro e w1 ⟨rfl, hb1⟩
       obtain ⟨W3, hW3, e1, e3, e4⟩ := new_box w1 3 c ByteArray.empty
       have hb4 := Below.up hb1 e3
       (try have Z1 := hide ((unhide Z1).up hb4)); (try have Z2 := hide ((unhide Z2).up hb4)); have B2 := hide ((unhide B2).up hb4); have B3 := hide ((unhide B3).up hb4); have HB := hide (Below.up (unhide HB) hb4); clear hb4
       have Z2 := hide e1
       obtain ⟨x0, x1, x2, -, -, -, ly⟩ := (unhide B2).all
       (try obtain ⟨c0, c1, c2, -, -, -, lt⟩ := (unhide Z1).all); (try obtain ⟨x0, x1, x2, -, -, -, ly⟩ := (unhide Z2).all); obtain ⟨d0, d1, d2, d3, d4, g0, g1, g2, g3, g4, lt'⟩ := (unhide B3).all
       clear hb1 e1 e3 e4)
    | (go_at_call 50; refine (unhide HC _).mono ?_; rintro e w4 ⟨rfl, hb4⟩; (try have Z1 := hide ((unhide Z1).up hb4)); (try have Z2 := hide ((unhide Z2).up hb4)); have B2 := hide ((unhide B2).up hb4); have B3 := hide ((unhide B3).up hb4); have HB := hide (Below.up (unhide HB) hb4); clear hb4; (try obtain ⟨c0, c1, c2, -, -, -, lt⟩ := (unhide Z1).all); (try obtain ⟨x0, x1, x2, -, -, -, ly⟩ := (unhide Z2).all); obtain ⟨d0, d1, d2, d3, d4, g0, g1, g2, g3, g4, lt'⟩ := (unhide B3).all)
    | (go_at_call 27; refine (rBool_any _ _).mono ?_; rintro e w4 ⟨rfl, hb4⟩; unfold Vc; (try have Z1 := hide ((unhide Z1).up hb4)); (try have Z2 := hide ((unhide Z2).up hb4)); have B2 := hide ((unhide B2).up hb4); have B3 := hide ((unhide B3).up hb4); have HB := hide (Below.up (unhide HB) hb4); clear hb4; (try obtain ⟨c0, c1, c2, -, -, -, lt⟩ := (unhide Z1).all); (try obtain ⟨x0, x1, x2, -, -, -, ly⟩ := (unhide Z2).all); obtain ⟨d0, d1, d2, d3, d4, g0, g1, g2, g3, g4, lt'⟩ := (unhide B3).all))
  exact ret_o Tryd.results13 rfl (unhide B3) rfl (unhide HB) (by omega) rfl
theorem rbn_le (a c : Int) (q : Bool) (k0 n0 k1 n1 : Int) (t0 t1 : ByteArray) (J10 : Ret 26 #[.agg (Vc k0 n0 t0)] (.agg (Vc 3 a ByteArray.empty))) (J20 : Ret 26 #[.agg (Vc k1 n1 t1)] (.agg (Vc 3 c ByteArray.empty))) (h1 : -9007199254740991 ≤ a) (h2 : a ≤ 9007199254740991) (h3 : -9007199254740991 ≤ c) (h4 : c ≤ 9007199254740991) (HC0 : Ret 50 #[.string ⟨#[60, 61]⟩, .int .i64 (a - c)] (.bool q)) : Ret 13 #[.string ⟨#[60, 61]⟩, .agg (Vc k0 n0 t0), .agg (Vc k1 n1 t1)] (.agg (Oc 2 (bI q) ByteArray.empty ⟨#[]⟩ 0)) := by
  intro W
  have J1 := hide J10
  have J2 := hide J20
  have HC := hide HC0
  clear HC0
  unfold Vc at J1 J2 ⊢
  clear J10 J20
  obtain ⟨W2, hW2, b1, b2, b3, hb, hz⟩ := box_box_out W k0 n0 t0 k1 n1 t1
  obtain ⟨c0, c1, c2, -, -, -, lt⟩ := b1.all
  have B2 := hide b2
  have B3 := hide b3
  have HB := hide hb
  clear b1 b2 b3 hb hz
  go_enter Tryd.func13, Tryd.ntmps13
  go_wp2_with (first
    | (go_at_call 26
       refine (unhide J1 _).mono ?_
       clear J1
       rintro e w1 ⟨rfl, hb1⟩
       obtain ⟨W3, hW3, e1, e3, e4⟩ := new_box w1 3 a ByteArray.empty
       have hb4 := Below.up hb1 e3
       (try have Z1 := hide ((unhide Z1).up hb4)); (try have Z2 := hide ((unhide Z2).up hb4)); have B2 := hide ((unhide B2).up hb4); have B3 := hide ((unhide B3).up hb4); have HB := hide (Below.up (unhide HB) hb4); clear hb4
       have Z1 := hide e1
       obtain ⟨x0, x1, x2, -, -, -, ly⟩ := (unhide B2).all
       (try obtain ⟨c0, c1, c2, -, -, -, lt⟩ := (unhide Z1).all); (try obtain ⟨x0, x1, x2, -, -, -, ly⟩ := (unhide Z2).all); obtain ⟨d0, d1, d2, d3, d4, g0, g1, g2, g3, g4, lt'⟩ := (unhide B3).all
       clear hb1 e1 e3 e4)
    | (go_at_call 26
       refine (unhide J2 _).mono ?_
       clear J2
       rintro e w1 ⟨rfl, hb1⟩
       obtain ⟨W3, hW3, e1, e3, e4⟩ := new_box w1 3 c ByteArray.empty
       have hb4 := Below.up hb1 e3
       (try have Z1 := hide ((unhide Z1).up hb4)); (try have Z2 := hide ((unhide Z2).up hb4)); have B2 := hide ((unhide B2).up hb4); have B3 := hide ((unhide B3).up hb4); have HB := hide (Below.up (unhide HB) hb4); clear hb4
       have Z2 := hide e1
       obtain ⟨x0, x1, x2, -, -, -, ly⟩ := (unhide B2).all
       (try obtain ⟨c0, c1, c2, -, -, -, lt⟩ := (unhide Z1).all); (try obtain ⟨x0, x1, x2, -, -, -, ly⟩ := (unhide Z2).all); obtain ⟨d0, d1, d2, d3, d4, g0, g1, g2, g3, g4, lt'⟩ := (unhide B3).all
       clear hb1 e1 e3 e4)
    | (go_at_call 50; refine (unhide HC _).mono ?_; rintro e w4 ⟨rfl, hb4⟩; (try have Z1 := hide ((unhide Z1).up hb4)); (try have Z2 := hide ((unhide Z2).up hb4)); have B2 := hide ((unhide B2).up hb4); have B3 := hide ((unhide B3).up hb4); have HB := hide (Below.up (unhide HB) hb4); clear hb4; (try obtain ⟨c0, c1, c2, -, -, -, lt⟩ := (unhide Z1).all); (try obtain ⟨x0, x1, x2, -, -, -, ly⟩ := (unhide Z2).all); obtain ⟨d0, d1, d2, d3, d4, g0, g1, g2, g3, g4, lt'⟩ := (unhide B3).all)
    | (go_at_call 27; refine (rBool_any _ _).mono ?_; rintro e w4 ⟨rfl, hb4⟩; unfold Vc; (try have Z1 := hide ((unhide Z1).up hb4)); (try have Z2 := hide ((unhide Z2).up hb4)); have B2 := hide ((unhide B2).up hb4); have B3 := hide ((unhide B3).up hb4); have HB := hide (Below.up (unhide HB) hb4); clear hb4; (try obtain ⟨c0, c1, c2, -, -, -, lt⟩ := (unhide Z1).all); (try obtain ⟨x0, x1, x2, -, -, -, ly⟩ := (unhide Z2).all); obtain ⟨d0, d1, d2, d3, d4, g0, g1, g2, g3, g4, lt'⟩ := (unhide B3).all))
  exact ret_o Tryd.results13 rfl (unhide B3) rfl (unhide HB) (by omega) rfl
theorem rbn_gt (a c : Int) (q : Bool) (k0 n0 k1 n1 : Int) (t0 t1 : ByteArray) (J10 : Ret 26 #[.agg (Vc k0 n0 t0)] (.agg (Vc 3 a ByteArray.empty))) (J20 : Ret 26 #[.agg (Vc k1 n1 t1)] (.agg (Vc 3 c ByteArray.empty))) (h1 : -9007199254740991 ≤ a) (h2 : a ≤ 9007199254740991) (h3 : -9007199254740991 ≤ c) (h4 : c ≤ 9007199254740991) (HC0 : Ret 50 #[.string ⟨#[62]⟩, .int .i64 (a - c)] (.bool q)) : Ret 13 #[.string ⟨#[62]⟩, .agg (Vc k0 n0 t0), .agg (Vc k1 n1 t1)] (.agg (Oc 2 (bI q) ByteArray.empty ⟨#[]⟩ 0)) := by
  intro W
  have J1 := hide J10
  have J2 := hide J20
  have HC := hide HC0
  clear HC0
  unfold Vc at J1 J2 ⊢
  clear J10 J20
  obtain ⟨W2, hW2, b1, b2, b3, hb, hz⟩ := box_box_out W k0 n0 t0 k1 n1 t1
  obtain ⟨c0, c1, c2, -, -, -, lt⟩ := b1.all
  have B2 := hide b2
  have B3 := hide b3
  have HB := hide hb
  clear b1 b2 b3 hb hz
  go_enter Tryd.func13, Tryd.ntmps13
  go_wp2_with (first
    | (go_at_call 26
       refine (unhide J1 _).mono ?_
       clear J1
       rintro e w1 ⟨rfl, hb1⟩
       obtain ⟨W3, hW3, e1, e3, e4⟩ := new_box w1 3 a ByteArray.empty
       have hb4 := Below.up hb1 e3
       (try have Z1 := hide ((unhide Z1).up hb4)); (try have Z2 := hide ((unhide Z2).up hb4)); have B2 := hide ((unhide B2).up hb4); have B3 := hide ((unhide B3).up hb4); have HB := hide (Below.up (unhide HB) hb4); clear hb4
       have Z1 := hide e1
       obtain ⟨x0, x1, x2, -, -, -, ly⟩ := (unhide B2).all
       (try obtain ⟨c0, c1, c2, -, -, -, lt⟩ := (unhide Z1).all); (try obtain ⟨x0, x1, x2, -, -, -, ly⟩ := (unhide Z2).all); obtain ⟨d0, d1, d2, d3, d4, g0, g1, g2, g3, g4, lt'⟩ := (unhide B3).all
       clear hb1 e1 e3 e4)
    | (go_at_call 26
       refine (unhide J2 _).mono ?_
       clear J2
       rintro e w1 ⟨rfl, hb1⟩
       obtain ⟨W3, hW3, e1, e3, e4⟩ := new_box w1 3 c ByteArray.empty
       have hb4 := Below.up hb1 e3
       (try have Z1 := hide ((unhide Z1).up hb4)); (try have Z2 := hide ((unhide Z2).up hb4)); have B2 := hide ((unhide B2).up hb4); have B3 := hide ((unhide B3).up hb4); have HB := hide (Below.up (unhide HB) hb4); clear hb4
       have Z2 := hide e1
       obtain ⟨x0, x1, x2, -, -, -, ly⟩ := (unhide B2).all
       (try obtain ⟨c0, c1, c2, -, -, -, lt⟩ := (unhide Z1).all); (try obtain ⟨x0, x1, x2, -, -, -, ly⟩ := (unhide Z2).all); obtain ⟨d0, d1, d2, d3, d4, g0, g1, g2, g3, g4, lt'⟩ := (unhide B3).all
       clear hb1 e1 e3 e4)
    | (go_at_call 50; refine (unhide HC _).mono ?_; rintro e w4 ⟨rfl, hb4⟩; (try have Z1 := hide ((unhide Z1).up hb4)); (try have Z2 := hide ((unhide Z2).up hb4)); have B2 := hide ((unhide B2).up hb4); have B3 := hide ((unhide B3).up hb4); have HB := hide (Below.up (unhide HB) hb4); clear hb4; (try obtain ⟨c0, c1, c2, -, -, -, lt⟩ := (unhide Z1).all); (try obtain ⟨x0, x1, x2, -, -, -, ly⟩ := (unhide Z2).all); obtain ⟨d0, d1, d2, d3, d4, g0, g1, g2, g3, g4, lt'⟩ := (unhide B3).all)
    | (go_at_call 27; refine (rBool_any _ _).mono ?_; rintro e w4 ⟨rfl, hb4⟩; unfold Vc; (try have Z1 := hide ((unhide Z1).up hb4)); (try have Z2 := hide ((unhide Z2).up hb4)); have B2 := hide ((unhide B2).up hb4); have B3 := hide ((unhide B3).up hb4); have HB := hide (Below.up (unhide HB) hb4); clear hb4; (try obtain ⟨c0, c1, c2, -, -, -, lt⟩ := (unhide Z1).all); (try obtain ⟨x0, x1, x2, -, -, -, ly⟩ := (unhide Z2).all); obtain ⟨d0, d1, d2, d3, d4, g0, g1, g2, g3, g4, lt'⟩ := (unhide B3).all))
  exact ret_o Tryd.results13 rfl (unhide B3) rfl (unhide HB) (by omega) rfl
theorem rbn_ge (a c : Int) (q : Bool) (k0 n0 k1 n1 : Int) (t0 t1 : ByteArray) (J10 : Ret 26 #[.agg (Vc k0 n0 t0)] (.agg (Vc 3 a ByteArray.empty))) (J20 : Ret 26 #[.agg (Vc k1 n1 t1)] (.agg (Vc 3 c ByteArray.empty))) (h1 : -9007199254740991 ≤ a) (h2 : a ≤ 9007199254740991) (h3 : -9007199254740991 ≤ c) (h4 : c ≤ 9007199254740991) (HC0 : Ret 50 #[.string ⟨#[62, 61]⟩, .int .i64 (a - c)] (.bool q)) : Ret 13 #[.string ⟨#[62, 61]⟩, .agg (Vc k0 n0 t0), .agg (Vc k1 n1 t1)] (.agg (Oc 2 (bI q) ByteArray.empty ⟨#[]⟩ 0)) := by
  intro W
  have J1 := hide J10
  have J2 := hide J20
  have HC := hide HC0
  clear HC0
  unfold Vc at J1 J2 ⊢
  clear J10 J20
  obtain ⟨W2, hW2, b1, b2, b3, hb, hz⟩ := box_box_out W k0 n0 t0 k1 n1 t1
  obtain ⟨c0, c1, c2, -, -, -, lt⟩ := b1.all
  have B2 := hide b2
  have B3 := hide b3
  have HB := hide hb
  clear b1 b2 b3 hb hz
  go_enter Tryd.func13, Tryd.ntmps13
  go_wp2_with (first
    | (go_at_call 26
       refine (unhide J1 _).mono ?_
       clear J1
       rintro e w1 ⟨rfl, hb1⟩
       obtain ⟨W3, hW3, e1, e3, e4⟩ := new_box w1 3 a ByteArray.empty
       have hb4 := Below.up hb1 e3
       (try have Z1 := hide ((unhide Z1).up hb4)); (try have Z2 := hide ((unhide Z2).up hb4)); have B2 := hide ((unhide B2).up hb4); have B3 := hide ((unhide B3).up hb4); have HB := hide (Below.up (unhide HB) hb4); clear hb4
       have Z1 := hide e1
       obtain ⟨x0, x1, x2, -, -, -, ly⟩ := (unhide B2).all
       (try obtain ⟨c0, c1, c2, -, -, -, lt⟩ := (unhide Z1).all); (try obtain ⟨x0, x1, x2, -, -, -, ly⟩ := (unhide Z2).all); obtain ⟨d0, d1, d2, d3, d4, g0, g1, g2, g3, g4, lt'⟩ := (unhide B3).all
       clear hb1 e1 e3 e4)
    | (go_at_call 26
       refine (unhide J2 _).mono ?_
       clear J2
       rintro e w1 ⟨rfl, hb1⟩
       obtain ⟨W3, hW3, e1, e3, e4⟩ := new_box w1 3 c ByteArray.empty
       have hb4 := Below.up hb1 e3
       (try have Z1 := hide ((unhide Z1).up hb4)); (try have Z2 := hide ((unhide Z2).up hb4)); have B2 := hide ((unhide B2).up hb4); have B3 := hide ((unhide B3).up hb4); have HB := hide (Below.up (unhide HB) hb4); clear hb4
       have Z2 := hide e1
       obtain ⟨x0, x1, x2, -, -, -, ly⟩ := (unhide B2).all
       (try obtain ⟨c0, c1, c2, -, -, -, lt⟩ := (unhide Z1).all); (try obtain ⟨x0, x1, x2, -, -, -, ly⟩ := (unhide Z2).all); obtain ⟨d0, d1, d2, d3, d4, g0, g1, g2, g3, g4, lt'⟩ := (unhide B3).all
       clear hb1 e1 e3 e4)
    | (go_at_call 50; refine (unhide HC _).mono ?_; rintro e w4 ⟨rfl, hb4⟩; (try have Z1 := hide ((unhide Z1).up hb4)); (try have Z2 := hide ((unhide Z2).up hb4)); have B2 := hide ((unhide B2).up hb4); have B3 := hide ((unhide B3).up hb4); have HB := hide (Below.up (unhide HB) hb4); clear hb4; (try obtain ⟨c0, c1, c2, -, -, -, lt⟩ := (unhide Z1).all); (try obtain ⟨x0, x1, x2, -, -, -, ly⟩ := (unhide Z2).all); obtain ⟨d0, d1, d2, d3, d4, g0, g1, g2, g3, g4, lt'⟩ := (unhide B3).all)
    | (go_at_call 27; refine (rBool_any _ _).mono ?_; rintro e w4 ⟨rfl, hb4⟩; unfold Vc; (try have Z1 := hide ((unhide Z1).up hb4)); (try have Z2 := hide ((unhide Z2).up hb4)); have B2 := hide ((unhide B2).up hb4); have B3 := hide ((unhide B3).up hb4); have HB := hide (Below.up (unhide HB) hb4); clear hb4; (try obtain ⟨c0, c1, c2, -, -, -, lt⟩ := (unhide Z1).all); (try obtain ⟨x0, x1, x2, -, -, -, ly⟩ := (unhide Z2).all); obtain ⟨d0, d1, d2, d3, d4, g0, g1, g2, g3, g4, lt'⟩ := (unhide B3).all))
  exact ret_o Tryd.results13 rfl (unhide B3) rfl (unhide HB) (by omega) rfl
theorem rb_eq (k n k' n' : Int) (t t' : ByteArray) (k0 n0 k1 n1 : Int) (t0 t1 : ByteArray) (J10 : Ret 26 #[.agg (Vc k0 n0 t0)] (.agg (Vc k n t))) (J20 : Ret 26 #[.agg (Vc k1 n1 t1)] (.agg (Vc k' n' t')))  : Ret 13 #[.string ⟨#[61, 61, 61]⟩, .agg (Vc k0 n0 t0), .agg (Vc k1 n1 t1)] (.agg (Oc 2 (bI (eqV k n t k' n' t')) ByteArray.empty ⟨#[]⟩ 0)) := by
  intro W
  have J1 := hide J10
  have J2 := hide J20
  unfold Vc at J1 J2 ⊢
  clear J10 J20
  obtain ⟨W2, hW2, b1, b2, b3, hb, hz⟩ := box_box_out W k0 n0 t0 k1 n1 t1
  obtain ⟨c0, c1, c2, -, -, -, lt⟩ := b1.all
  have B2 := hide b2
  have B3 := hide b3
  have HB := hide hb
  clear b1 b2 b3 hb hz
  go_enter Tryd.func13, Tryd.ntmps13
  go_wp2_with (first
    | (go_at_call 26
       refine (unhide J1 _).mono ?_
       clear J1
       rintro e w1 ⟨rfl, hb1⟩
       obtain ⟨W3, hW3, e1, e3, e4⟩ := new_box w1 k n t
       have hb4 := Below.up hb1 e3
       (try have Z1 := hide ((unhide Z1).up hb4)); (try have Z2 := hide ((unhide Z2).up hb4)); have B2 := hide ((unhide B2).up hb4); have B3 := hide ((unhide B3).up hb4); have HB := hide (Below.up (unhide HB) hb4); clear hb4
       have Z1 := hide e1
       obtain ⟨x0, x1, x2, -, -, -, ly⟩ := (unhide B2).all
       (try obtain ⟨c0, c1, c2, -, -, -, lt⟩ := (unhide Z1).all); (try obtain ⟨x0, x1, x2, -, -, -, ly⟩ := (unhide Z2).all); obtain ⟨d0, d1, d2, d3, d4, g0, g1, g2, g3, g4, lt'⟩ := (unhide B3).all
       clear hb1 e1 e3 e4)
    | (go_at_call 26
       refine (unhide J2 _).mono ?_
       clear J2
       rintro e w1 ⟨rfl, hb1⟩
       obtain ⟨W3, hW3, e1, e3, e4⟩ := new_box w1 k' n' t'
       have hb4 := Below.up hb1 e3
       (try have Z1 := hide ((unhide Z1).up hb4)); (try have Z2 := hide ((unhide Z2).up hb4)); have B2 := hide ((unhide B2).up hb4); have B3 := hide ((unhide B3).up hb4); have HB := hide (Below.up (unhide HB) hb4); clear hb4
       have Z2 := hide e1
       obtain ⟨x0, x1, x2, -, -, -, ly⟩ := (unhide B2).all
       (try obtain ⟨c0, c1, c2, -, -, -, lt⟩ := (unhide Z1).all); (try obtain ⟨x0, x1, x2, -, -, -, ly⟩ := (unhide Z2).all); obtain ⟨d0, d1, d2, d3, d4, g0, g1, g2, g3, g4, lt'⟩ := (unhide B3).all
       clear hb1 e1 e3 e4)
    | (go_at_call 27; refine (rBool_any _ _).mono ?_; rintro e w4 ⟨rfl, hb4⟩; unfold Vc; (try have Z1 := hide ((unhide Z1).up hb4)); (try have Z2 := hide ((unhide Z2).up hb4)); have B2 := hide ((unhide B2).up hb4); have B3 := hide ((unhide B3).up hb4); have HB := hide (Below.up (unhide HB) hb4); clear hb4; (try obtain ⟨c0, c1, c2, -, -, -, lt⟩ := (unhide Z1).all); (try obtain ⟨x0, x1, x2, -, -, -, ly⟩ := (unhide Z2).all); obtain ⟨d0, d1, d2, d3, d4, g0, g1, g2, g3, g4, lt'⟩ := (unhide B3).all))
  all_goals (first
    | (have q : eqV k n t k' n' t' = true := (by simp [eqV, *]); exact ret_o Tryd.results13 rfl (unhide B3) (by show _ = Oc 2 (bI (eqV k n t k' n' t')) ByteArray.empty ⟨#[]⟩ 0; rw [q]; rfl) (unhide HB) (by omega) rfl)
    | (have q : eqV k n t k' n' t' = false := (by simp [eqV, *]); exact ret_o Tryd.results13 rfl (unhide B3) (by show _ = Oc 2 (bI (eqV k n t k' n' t')) ByteArray.empty ⟨#[]⟩ 0; rw [q]; rfl) (unhide HB) (by omega) rfl))
theorem rb_ne (k n k' n' : Int) (t t' : ByteArray) (k0 n0 k1 n1 : Int) (t0 t1 : ByteArray) (J10 : Ret 26 #[.agg (Vc k0 n0 t0)] (.agg (Vc k n t))) (J20 : Ret 26 #[.agg (Vc k1 n1 t1)] (.agg (Vc k' n' t')))  : Ret 13 #[.string ⟨#[33, 61, 61]⟩, .agg (Vc k0 n0 t0), .agg (Vc k1 n1 t1)] (.agg (Oc 2 (bI (!eqV k n t k' n' t')) ByteArray.empty ⟨#[]⟩ 0)) := by
  intro W
  have J1 := hide J10
  have J2 := hide J20
  unfold Vc at J1 J2 ⊢
  clear J10 J20
  obtain ⟨W2, hW2, b1, b2, b3, hb, hz⟩ := box_box_out W k0 n0 t0 k1 n1 t1
  obtain ⟨c0, c1, c2, -, -, -, lt⟩ := b1.all
  have B2 := hide b2
  have B3 := hide b3
  have HB := hide hb
  clear b1 b2 b3 hb hz
  go_enter Tryd.func13, Tryd.ntmps13
  go_wp2_with (first
    | (go_at_call 26
       refine (unhide J1 _).mono ?_
       clear J1
       rintro e w1 ⟨rfl, hb1⟩
       obtain ⟨W3, hW3, e1, e3, e4⟩ := new_box w1 k n t
       have hb4 := Below.up hb1 e3
       (try have Z1 := hide ((unhide Z1).up hb4)); (try have Z2 := hide ((unhide Z2).up hb4)); have B2 := hide ((unhide B2).up hb4); have B3 := hide ((unhide B3).up hb4); have HB := hide (Below.up (unhide HB) hb4); clear hb4
       have Z1 := hide e1
       obtain ⟨x0, x1, x2, -, -, -, ly⟩ := (unhide B2).all
       (try obtain ⟨c0, c1, c2, -, -, -, lt⟩ := (unhide Z1).all); (try obtain ⟨x0, x1, x2, -, -, -, ly⟩ := (unhide Z2).all); obtain ⟨d0, d1, d2, d3, d4, g0, g1, g2, g3, g4, lt'⟩ := (unhide B3).all
       clear hb1 e1 e3 e4)
    | (go_at_call 26
       refine (unhide J2 _).mono ?_
       clear J2
       rintro e w1 ⟨rfl, hb1⟩
       obtain ⟨W3, hW3, e1, e3, e4⟩ := new_box w1 k' n' t'
       have hb4 := Below.up hb1 e3
       (try have Z1 := hide ((unhide Z1).up hb4)); (try have Z2 := hide ((unhide Z2).up hb4)); have B2 := hide ((unhide B2).up hb4); have B3 := hide ((unhide B3).up hb4); have HB := hide (Below.up (unhide HB) hb4); clear hb4
       have Z2 := hide e1
       obtain ⟨x0, x1, x2, -, -, -, ly⟩ := (unhide B2).all
       (try obtain ⟨c0, c1, c2, -, -, -, lt⟩ := (unhide Z1).all); (try obtain ⟨x0, x1, x2, -, -, -, ly⟩ := (unhide Z2).all); obtain ⟨d0, d1, d2, d3, d4, g0, g1, g2, g3, g4, lt'⟩ := (unhide B3).all
       clear hb1 e1 e3 e4)
    | (go_at_call 27; refine (rBool_any _ _).mono ?_; rintro e w4 ⟨rfl, hb4⟩; unfold Vc; (try have Z1 := hide ((unhide Z1).up hb4)); (try have Z2 := hide ((unhide Z2).up hb4)); have B2 := hide ((unhide B2).up hb4); have B3 := hide ((unhide B3).up hb4); have HB := hide (Below.up (unhide HB) hb4); clear hb4; (try obtain ⟨c0, c1, c2, -, -, -, lt⟩ := (unhide Z1).all); (try obtain ⟨x0, x1, x2, -, -, -, ly⟩ := (unhide Z2).all); obtain ⟨d0, d1, d2, d3, d4, g0, g1, g2, g3, g4, lt'⟩ := (unhide B3).all))
  all_goals (first
    | (have q : eqV k n t k' n' t' = true := (by simp [eqV, *]); exact ret_o Tryd.results13 rfl (unhide B3) (by show _ = Oc 2 (bI (!eqV k n t k' n' t')) ByteArray.empty ⟨#[]⟩ 0; rw [q]; rfl) (unhide HB) (by omega) rfl)
    | (have q : eqV k n t k' n' t' = false := (by simp [eqV, *]); exact ret_o Tryd.results13 rfl (unhide B3) (by show _ = Oc 2 (bI (!eqV k n t k' n' t')) ByteArray.empty ⟨#[]⟩ 0; rw [q]; rfl) (unhide HB) (by omega) rfl))
end Go.Proofs.YthjlhdldomfikaaDoor

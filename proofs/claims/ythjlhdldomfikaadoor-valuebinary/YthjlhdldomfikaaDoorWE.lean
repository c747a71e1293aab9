/- Merged: VUE, VUF, VUG. -/
import Derived.BigQuiet
import Derived.Deep.QuietTactic
import Derived.Test.YthjlhdldomfikaaDoorVQ
import Derived.Test.YthjlhdldomfikaaDoorVY8
import Derived.Test.YthjlhdldomfikaaDoorWA
import Derived.Test.YthjlhdldomfikaaDoorWB
/- The reference's Binary at two texts in order, and at signs that there are not. -/
namespace Go.Proofs.YthjlhdldomfikaaDoor
set_option linter.unusedSimpArgs false
set_option linter.unusedVariables false
set_option maxRecDepth 100000
set_option maxHeartbeats 4000000
open Go.RowKit Go.Shelf

theorem rbt_lt_C (n n' : Int) (t t' : ByteArray) (d : Int) (q : Bool) (k0 n0 k1 n1 : Int) (t0 t1 : ByteArray) (J10 : Ret 26 #[.agg (Vc k0 n0 t0)] (.agg (Vc 4 n t))) (J20 : Ret 26 #[.agg (Vc k1 n1 t1)] (.agg (Vc 4 n' t')))  (HC0 : Ret 51 #[.string t, .string t'] (.int .i64 d)) (HD0 : Ret 50 #[.string ⟨#[60]⟩, .int .i64 d] (.bool q)) : Ret 13 #[.string ⟨#[60]⟩, .agg (Vc k0 n0 t0), .agg (Vc k1 n1 t1)] (.agg (Oc 2 (bI q) ByteArray.empty ⟨#[]⟩ 0)) := by
  intro W
  have J1 := hide J10
  have J2 := hide J20
  have HC := hide HC0
  have HD := hide HD0
  clear HC0 HD0
  unfold Vc at J1 J2 ⊢
  clear J10 J20
  obtain ⟨W2, hW2, b1, b2, b3, hb, hz⟩ := box_box_out W k0 n0 t0 k1 n1 t1
  obtain ⟨c0, c1, c2, -, -, -, lt⟩ := b1.all
  have B2 := hide b2
  have B3 := hide b3
  have HB := hide hb
  clear b1 b2 b3 hb hz
  go_enter Tryd.func13, Tryd.ntmps13
  go_wp2_with (first
    | (go_at_call 26
       refine (unhide J1 _).mono ?_
       clear J1
       rintro e w1 ⟨rfl, hb1⟩
       obtain ⟨W3, hW3, e1, e3, e4⟩ := new_box w1 4 n t
       have hb4 := Below.up hb1 e3
       (try have Z1 := hide ((unhide Z1).up hb4)); (try have Z2 := hide ((unhide Z2).up hb4)); have B2 := hide ((unhide B2).up hb4); have B3 := hide ((unhide B3).up hb4); have HB := hide (Below.up (unhide HB) hb4); clear hb4
       have Z1 := hide e1
       obtain ⟨x0, x1, x2, -, -, -, ly⟩ := (unhide B2).all
       (try obtain ⟨c0, c1, c2, -, -, -, lt⟩ := (unhide Z1).all); (try obtain ⟨x0, x1, x2, -, -, -, ly⟩ := (unhide Z2).all); obtain ⟨d0, d1, d2, d3, d4, g0, g1, g2, g3, g4, lt'⟩ := (unhide B3).all
       clear hb1 e1 e3 e4)
    | (go_at_call 26
       refine (unhide J2 _).mono ?_
       clear J2
       rintro e w1 ⟨rfl, hb1⟩
       obtain ⟨W3, hW3, e1, e3, e4⟩ := new_box w1 4 n' t'
       have hb4 := Below.up hb1 e3
       (try have Z1 := hide ((unhide Z1).up hb4)); (try have Z2 := hide ((unhide Z2).up hb4)); have B2 := hide ((unhide B2).up hb4); have B3 := hide ((unhide B3).up hb4); have HB := hide (Below.up (unhide HB) hb4); clear hb4
       have Z2 := hide e1
       obtain ⟨x0, x1, x2, -, -, -, ly⟩ := (unhide B2).all
       (try obtain ⟨c0, c1, c2, -, -, -, lt⟩ := (unhide Z1).all); (try obtain ⟨x0, x1, x2, -, -, -, ly⟩ := (unhide Z2).all); obtain ⟨d0, d1, d2, d3, d4, g0, g1, g2, g3, g4, lt'⟩ := (unhide B3).all
       clear hb1 e1 e3 e4)
    | (go_at_call 51; refine (unhide HC _).mono ?_; rintro e w4 ⟨rfl, hb4⟩; (try have Z1 := hide ((unhide Z1).up hb4)); (try have Z2 := hide ((unhide Z2).up hb4)); have B2 := hide ((unhide B2).up hb4); have B3 := hide ((unhide B3).up hb4); have HB := hide (Below.up (unhide HB) hb4); clear hb4; (try obtain ⟨c0, c1, c2, -, -, -, lt⟩ := (unhide Z1).all); (try obtain ⟨x0, x1, x2, -, -, -, ly⟩ := (unhide Z2).all); obtain ⟨d0, d1, d2, d3, d4, g0, g1, g2, g3, g4, lt'⟩ := (unhide B3).all)
    | (go_at_call 50; refine (unhide HD _).mono ?_; rintro e w4 ⟨rfl, hb4⟩; (try have Z1 := hide ((unhide Z1).up hb4)); (try have Z2 := hide ((unhide Z2).up hb4)); have B2 := hide ((unhide B2).up hb4); have B3 := hide ((unhide B3).up hb4); have HB := hide (Below.up (unhide HB) hb4); clear hb4; (try obtain ⟨c0, c1, c2, -, -, -, lt⟩ := (unhide Z1).all); (try obtain ⟨x0, x1, x2, -, -, -, ly⟩ := (unhide Z2).all); obtain ⟨d0, d1, d2, d3, d4, g0, g1, g2, g3, g4, lt'⟩ := (unhide B3).all)
    | (go_at_call 27; refine (rBool_any _ _).mono ?_; rintro e w4 ⟨rfl, hb4⟩; unfold Vc; (try have Z1 := hide ((unhide Z1).up hb4)); (try have Z2 := hide ((unhide Z2).up hb4)); have B2 := hide ((unhide B2).up hb4); have B3 := hide ((unhide B3).up hb4); have HB := hide (Below.up (unhide HB) hb4); clear hb4; (try obtain ⟨c0, c1, c2, -, -, -, lt⟩ := (unhide Z1).all); (try obtain ⟨x0, x1, x2, -, -, -, ly⟩ := (unhide Z2).all); obtain ⟨d0, d1, d2, d3, d4, g0, g1, g2, g3, g4, lt'⟩ := (unhide B3).all))
  exact ret_o Tryd.results13 rfl (unhide B3) rfl (unhide HB) (by omega) rfl
theorem rbt_le_C (n n' : Int) (t t' : ByteArray) (d : Int) (q : Bool) (k0 n0 k1 n1 : Int) (t0 t1 : ByteArray) (J10 : Ret 26 #[.agg (Vc k0 n0 t0)] (.agg (Vc 4 n t))) (J20 : Ret 26 #[.agg (Vc k1 n1 t1)] (.agg (Vc 4 n' t')))  (HC0 : Ret 51 #[.string t, .string t'] (.int .i64 d)) (HD0 : Ret 50 #[.string ⟨#[60, 61]⟩, .int .i64 d] (.bool q)) : Ret 13 #[.string ⟨#[60, 61]⟩, .agg (Vc k0 n0 t0), .agg (Vc k1 n1 t1)] (.agg (Oc 2 (bI q) ByteArray.empty ⟨#[]⟩ 0)) := by
  intro W
  have J1 := hide J10
  have J2 := hide J20
  have HC := hide HC0
  have HD := hide HD0
  clear HC0 HD0
  unfold Vc at J1 J2 ⊢
  clear J10 J20
  obtain ⟨W2, hW2, b1, b2, b3, hb, hz⟩ := box_box_out W k0 n0 t0 k1 n1 t1
  obtain ⟨c0, c1, c2, -, -, -, lt⟩ := b1.all
  have B2 := hide b2
  have B3 := hide b3
  have HB := hide hb
  clear b1 b2 b3 hb hz
  go_enter Tryd.func13, Tryd.ntmps13
  go_wp2_with (first
    | (go_at_call 26
       refine (unhide J1 _).mono ?_
       clear J1
       rintro e w1 ⟨rfl, hb1⟩
       obtain ⟨W3, hW3, e1, e3, e4⟩ := new_box w1 4 n t
       have hb4 := Below.up hb1 e3
       (try have Z1 := hide ((unhide Z1).up hb4)); (try have Z2 := hide ((unhide Z2).up hb4)); have B2 := hide ((unhide B2).up hb4); have B3 := hide ((unhide B3).up hb4); have HB := hide (Below.up (unhide HB) hb4); clear hb4
       have Z1 := hide e1
       obtain ⟨x0, x1, x2, -, -, -, ly⟩ := (unhide B2).all
       (try obtain ⟨c0, c1, c2, -, -, -, lt⟩ := (unhide Z1).all); (try obtain ⟨x0, x1, x2, -, -, -, ly⟩ := (unhide Z2).all); obtain ⟨d0, d1, d2, d3, d4, g0, g1, g2, g3, g4, lt'⟩ := (unhide B3).all
       clear hb1 e1 e3 e4)
    | (go_at_call 26
       refine (unhide J2 _).mono ?_
       clear J2
       rintro e w1 ⟨rfl, hb1⟩
       obtain ⟨W3, hW3, e1, e3, e4⟩ := new_box w1 4 n' t'
       have hb4 := Below.up hb1 e3
       (try have Z1 := hide ((unhide Z1).up hb4)); (try have Z2 := hide ((unhide Z2).up hb4)); have B2 := hide ((unhide B2).up hb4); have B3 := hide ((unhide B3).up hb4); have HB := hide (Below.up (unhide HB) hb4); clear hb4
       have Z2 := hide e1
       obtain ⟨x0, x1, x2, -, -, -, ly⟩ := (unhide B2).all
       (try obtain ⟨c0, c1, c2, -, -, -, lt⟩ := (unhide Z1).all); (try obtain ⟨x0, x1, x2, -, -, -, ly⟩ := (unhide Z2).all); obtain ⟨d0, d1, d2, d3, d4, g0, g1, g2, g3, g4, lt'⟩ := (unhide B3).all
       clear hb1 e1 e3 e4)
    | (go_at_call 51; refine (unhide HC _).mono ?_; rintro e w4 ⟨rfl, hb4⟩; (try have Z1 := hide ((unhide Z1).up hb4)); (try have Z2 := hide ((unhide Z2).up hb4)); have B2 := hide ((unhide B2).up hb4); have B3 := hide ((unhide B3).up hb4); have HB := hide (Below.up (unhide HB) hb4); clear hb4; (try obtain ⟨c0, c1, c2, -, -, -, lt⟩ := (unhide Z1).all); (try obtain ⟨x0, x1, x2, -, -, -, ly⟩ := (unhide Z2).all); obtain ⟨d0, d1, d2, d3, d4, g0, g1, g2, g3, g4, lt'⟩ := (unhide B3).all)
    | (go_at_call 50; refine (unhide HD _).mono ?_; rintro e w4 ⟨rfl, hb4⟩; (try have Z1 := hide ((unhide Z1).up hb4)); (try have Z2 := hide ((unhide Z2).up hb4)); have B2 := hide ((unhide B2).up hb4); have B3 := hide ((unhide B3).up hb4); have HB := hide (Below.up (unhide HB) hb4); clear hb4; (try obtain ⟨c0, c1, c2, -, -, -, lt⟩ := (unhide Z1).all); (try obtain ⟨x0, x1, x2, -, -, -, ly⟩ := (unhide Z2).all); obtain ⟨d0, d1, d2, d3, d4, g0, g1, g2, g3, g4, lt'⟩ := (unhide B3).all)
    | (go_at_call 27; refine (rBool_any _ _).mono ?_; rintro e w4 ⟨rfl, hb4⟩; unfold Vc; (try have Z1 := hide ((unhide Z1).up hb4)); (try have Z2 := hide ((unhide Z2).up hb4)); have B2 := hide ((unhide B2).up hb4); have B3 := hide ((unhide B3).up hb4); have HB := hide (Below.up (unhide HB) hb4); clear hb4; (try obtain ⟨c0, c1, c2, -, -, -, lt⟩ := (unhide Z1).all); (try obtain ⟨x0, x1, x2, -, -, -, ly⟩ := (unhide Z2).all); obtain ⟨d0, d1, d2, d3, d4, g0, g1, g2, g3, g4, lt'⟩ := (unhide B3).all))
  exact ret_o Tryd.results13 rfl (unhide B3) rfl (unhide HB) (by omega) rfl
theorem rbt_gt_C (n n' : Int) (t t' : ByteArray) (d : Int) (q : Bool) (k0 n0 k1 n1 : Int) (t0 t1 : ByteArray) (J10 : Ret 26 #[.agg (Vc k0 n0 t0)] (.agg (Vc 4 n t))) (J20 : Ret 26 #[.agg (Vc k1 n1 t1)] (.agg (Vc 4 n' t')))  (HC0 : Ret 51 #[.string t, .string t'] (.int .i64 d)) (HD0 : Ret 50 #[.string ⟨#[62]⟩, .int .i64 d] (.bool q)) : Ret 13 #[.string ⟨#[62]⟩, .agg (Vc k0 n0 t0), .agg (Vc k1 n1 t1)] (.agg (Oc 2 (bI q) ByteArray.empty ⟨#[]⟩ 0)) := by
  intro W
  have J1 := hide J10
  have J2 := hide J20
  have HC := hide HC0
  have HD := hide HD0
  clear HC0 HD0
  unfold Vc at J1 J2 ⊢
  clear J10 J20
  obtain ⟨W2, hW2, b1, b2, b3, hb, hz⟩ := box_box_out W k0 n0 t0 k1 n1 t1
  obtain ⟨c0, c1, c2, -, -, -, lt⟩ := b1.all
  have B2 := hide b2
  have B3 := hide b3
  have HB := hide hb
  clear b1 b2 b3 hb hz
  go_enter Tryd.func13, Tryd.ntmps13
  go_wp2_with (first
    | (go_at_call 26
       refine (unhide J1 _).mono ?_
       clear J1
       rintro e w1 ⟨rfl, hb1⟩
       obtain ⟨W3, hW3, e1, e3, e4⟩ := new_box w1 4 n t
       have hb4 := Below.up hb1 e3
       (try have Z1 := hide ((unhide Z1).up hb4)); (try have Z2 := hide ((unhide Z2).up hb4)); have B2 := hide ((unhide B2).up hb4); have B3 := hide ((unhide B3).up hb4); have HB := hide (Below.up (unhide HB) hb4); clear hb4
       have Z1 := hide e1
       obtain ⟨x0, x1, x2, -, -, -, ly⟩ := (unhide B2).all
       (try obtain ⟨c0, c1, c2, -, -, -, lt⟩ := (unhide Z1).all); (try obtain ⟨x0, x1, x2, -, -, -, ly⟩ := (unhide Z2).all); obtain ⟨d0, d1, d2, d3, d4, g0, g1, g2, g3, g4, lt'⟩ := (unhide B3).all
       clear hb1 e1 e3 e4)
    | (go_at_call 26
       refine (unhide J2 _).mono ?_
       clear J2
       rintro e w1 ⟨rfl, hb1⟩
       obtain ⟨W3, hW3, e1, e3, e4⟩ := new_box w1 4 n' t'
       have hb4 := Below.up hb1 e3
       (try have Z1 := hide ((unhide Z1).up hb4)); (try have Z2 := hide ((unhide Z2).up hb4)); have B2 := hide ((unhide B2).up hb4); have B3 := hide ((unhide B3).up hb4); have HB := hide (Below.up (unhide HB) hb4); clear hb4
       have Z2 := hide e1
       obtain ⟨x0, x1, x2, -, -, -, ly⟩ := (unhide B2).all
       (try obtain ⟨c0, c1, c2, -, -, -, lt⟩ := (unhide Z1).all); (try obtain ⟨x0, x1, x2, -, -, -, ly⟩ := (unhide Z2).all); obtain ⟨d0, d1, d2, d3, d4, g0, g1, g2, g3, g4, lt'⟩ := (unhide B3).all
       clear hb1 e1 e3 e4)
    | (go_at_call 51; refine (unhide HC _).mono ?_; rintro e w4 ⟨rfl, hb4⟩; (try have Z1 := hide ((unhide Z1).up hb4)); (try have Z2 := hide ((unhide Z2).up hb4)); have B2 := hide ((unhide B2).up hb4); have B3 := hide ((unhide B3).up hb4); have HB := hide (Below.up (unhide HB) hb4); clear hb4; (try obtain ⟨c0, c1, c2, -, -, -, lt⟩ := (unhide Z1).all); (try obtain ⟨x0, x1, x2, -, -, -, ly⟩ := (unhide Z2).all); obtain ⟨d0, d1, d2, d3, d4, g0, g1, g2, g3, g4, lt'⟩ := (unhide B3).all)
    | (go_at_call 50; refine (unhide HD _).mono ?_; rintro e w4 ⟨rfl, hb4⟩; (try have Z1 := hide ((unhide Z1).up hb4)); (try have Z2 := hide ((unhide Z2).up hb4)); have B2 := hide ((unhide B2).up hb4); have B3 := hide ((unhide B3).up hb4); have HB := hide (Below.up (unhide HB) hb4); clear hb4; (try obtain ⟨c0, c1, c2, -, -, -, lt⟩ := (unhide Z1).all); (try obtain ⟨x0, x1, x2, -, -, -, ly⟩ := (unhide Z2).all); obtain ⟨d0, d1, d2, d3, d4, g0, g1, g2, g3, g4, lt'⟩ := (unhide B3).all)
    | (go_at_call 27; refine (rBool_any _ _).mono ?_; rintro e w4 ⟨rfl, hb4⟩; unfold Vc; (try have Z1 := hide ((unhide Z1).up hb4)); (try have Z2 := hide ((unhide Z2).up hb4)); have B2 := hide ((unhide B2).up hb4); have B3 := hide ((unhide B3).up hb4); have HB := hide (Below.up (unhide HB) hb4); clear hb4; (try obtain ⟨c0, c1, c2, -, -, -, lt⟩ := (unhide Z1).all); (try obtain ⟨x0, x1, x2, -, -, -, ly⟩ := (unhide Z2).all); obtain ⟨d0, d1, d2, d3, d4, g0, g1, g2, g3, g4, lt'⟩ := (unhide B3).all))
  exact ret_o Tryd.results13 rfl (unhide B3) rfl (unhide HB) (by omega) rfl
theorem rbt_ge_C (n n' : Int) (t t' : ByteArray) (d : Int) (q : Bool) (k0 n0 k1 n1 : Int) (t0 t1 : ByteArray) (J10 : Ret 26 #[.agg (Vc k0 n0 t0)] (.agg (Vc 4 n t))) (J20 : Ret 26 #[.agg (Vc k1 n1 t1)] (.agg (Vc 4 n' t')))  (HC0 : Ret 51 #[.string t, .string t'] (.int .i64 d)) (HD0 : Ret 50 #[.string ⟨#[62, 61]⟩, .int .i64 d] (.bool q)) : Ret 13 #[.string ⟨#[62, 61]⟩, .agg (Vc k0 n0 t0), .agg (Vc k1 n1 t1)] (.agg (Oc 2 (bI q) ByteArray.empty ⟨#[]⟩ 0)) := by
  intro W
  have J1 := hide J10
  have J2 := hide J20
  have HC := hide HC0
  have HD := hide HD0
  clear HC0 HD0
  unfold Vc at J1 J2 ⊢
  clear J10 J20
  obtain ⟨W2, hW2, b1, b2, b3, hb, hz⟩ := box_box_out W k0 n0 t0 k1 n1 t1
  obtain ⟨c0, c1, c2, -, -, -, lt⟩ := b1.all
  have B2 := hide b2
  have B3 := hide b3
  have HB := hide hb
  clear b1 b2 b3 hb hz
  go_enter Tryd.func13, Tryd.ntmps13
  go_wp2_with (first
    | (go_at_call 26
       refine (unhide J1 _).mono ?_
       clear J1
       rintro e w1 ⟨rfl, hb1⟩
       obtain ⟨W3, hW3, e1, e3, e4⟩ := new_box w1 4 n t
       have hb4 := Below.up hb1 e3
       (try have Z1 := hide ((unhide Z1).up hb4)); (try have Z2 := hide ((unhide Z2).up hb4)); have B2 := hide ((unhide B2).up hb4); have B3 := hide ((unhide B3).up hb4); have HB := hide (Below.up (unhide HB) hb4); clear hb4
       have Z1 := hide e1
       obtain ⟨x0, x1, x2, -, -, -, ly⟩ := (unhide B2).all
       (try obtain ⟨c0, c1, c2, -, -, -, lt⟩ := (unhide Z1).all); (try obtain ⟨x0, x1, x2, -, -, -, ly⟩ := (unhide Z2).all); obtain ⟨d0, d1, d2, d3, d4, g0, g1, g2, g3, g4, lt'⟩ := (unhide B3).all
       clear hb1 e1 e3 e4)
    | (go_at_call 26
       refine (unhide J2 _).mono ?_
       clear J2
       rintro e w1 ⟨rfl, hb1⟩
       obtain ⟨W3, hW3, e1, e3, e4⟩ := new_box w1 4 n' t'
       have hb4 := Below.up hb1 e3
       (try have Z1 := hide ((unhide Z1).up hb4)); (try have Z2 := hide ((unhide Z2).up hb4)); have B2 := hide ((unhide B2).up hb4); have B3 := hide ((unhide B3).up hb4); have HB := hide (Below.up (unhide HB) hb4); clear hb4
       have Z2 := hide e1
       obtain ⟨x0, x1, x2, -, -, -, ly⟩ := (unhide B2).all
       (try obtain ⟨c0, c1, c2, -, -, -, lt⟩ := (unhide Z1).all); (try obtain ⟨x0, x1, x2, -, -, -, ly⟩ := (unhide Z2).all); obtain ⟨d0, d1, d2, d3, d4, g0, g1, g2, g3, g4, lt'⟩ := (unhide B3).all
       clear hb1 e1 e3 e4)
    | (go_at_call 51; refine (unhide HC _).mono ?_; rintro e w4 ⟨rfl, hb4⟩; (try have Z1 := hide ((unhide Z1).up hb4)); (try have Z2 := hide ((unhide Z2).up hb4)); have B2 := hide ((unhide B2).up hb4); have B3 := hide ((unhide B3).up hb4); have HB := hide (Below.up (unhide HB) hb4); clear hb4; (try obtain ⟨c0, c1, c2, -, -, -, lt⟩ := (unhide Z1).all); (try obtain ⟨x0, x1, x2, -, -, -, ly⟩ := (unhide Z2).all); obtain ⟨d0, d1, d2, d3, d4, g0, g1, g2, g3, g4, lt'⟩ := (unhide B3).all)
    | (go_at_call 50; refine (unhide HD _).mono ?_; rintro e w4 ⟨rfl, hb4⟩; (try have Z1 := hide ((unhide Z1).up hb4)); (try have Z2 := hide ((unhide Z2).up hb4)); have B2 := hide ((unhide B2).up hb4); have B3 := hide ((unhide B3).up hb4); have HB := hide (Below.up (unhide HB) hb4); clear hb4; (try obtain ⟨c0, c1, c2, -, -, -, lt⟩ := (unhide Z1).all); (try obtain ⟨x0, x1, x2, -, -, -, ly⟩ := (unhide Z2).all); obtain ⟨d0, d1, d2, d3, d4, g0, g1, g2, g3, g4, lt'⟩ := (unhide B3).all)
    | (go_at_call 27; refine (rBool_any _ _).mono ?_; rintro e w4 ⟨rfl, hb4⟩; unfold Vc; (try have Z1 := hide ((unhide Z1).up hb4)); (try have Z2 := hide ((unhide Z2).up hb4)); have B2 := hide ((unhide B2).up hb4); have B3 := hide ((unhide B3).up hb4); have HB := hide (Below.up (unhide HB) hb4); clear hb4; (try obtain ⟨c0, c1, c2, -, -, -, lt⟩ := (unhide Z1).all); (try obtain ⟨x0, x1, x2, -, -, -, ly⟩ := (unhide Z2).all); obtain ⟨d0, d1, d2, d3, d4, g0, g1, g2, g3, g4, lt'⟩ := (unhide B3).all))
  exact ret_o Tryd.results13 rfl (unhide B3) rfl (unhide HB) (by omega) rfl
theorem rbt_none_A (k n k' n' : Int) (t t' : ByteArray) (op : ByteArray) (k0 n0 k1 n1 : Int) (t0 t1 : ByteArray) (J10 : Ret 26 #[.agg (Vc k0 n0 t0)] (.agg (Vc k n t))) (J20 : Ret 26 #[.agg (Vc k1 n1 t1)] (.agg (Vc k' n' t'))) (e1 : (k == 3) = false) (e3 : (k == 4) = false) (o0 : op ≠ ⟨#[61, 61, 61]⟩) (o1 : op ≠ ⟨#[33, 61, 61]⟩) (o2 : op ≠ ⟨#[43]⟩) (o3 : op ≠ ⟨#[45]⟩) (o4 : op ≠ ⟨#[42]⟩) (o5 : op ≠ ⟨#[37]⟩) (o6 : op ≠ ⟨#[38]⟩) (o7 : op ≠ ⟨#[124]⟩) (o8 : op ≠ ⟨#[94]⟩) (o9 : op ≠ ⟨#[60, 60]⟩) (o10 : op ≠ ⟨#[62, 62]⟩) (o11 : op ≠ ⟨#[62, 62, 62]⟩) (o12 : op ≠ ⟨#[60]⟩) (o13 : op ≠ ⟨#[60, 61]⟩) (o14 : op ≠ ⟨#[62]⟩) (o15 : op ≠ ⟨#[62, 61]⟩) : Ret 13 #[.string op, .agg (Vc k0 n0 t0), .agg (Vc k1 n1 t1)] (.agg (Oc 0 0 ByteArray.empty ⟨#[]⟩ 0)) := by
  intro W
  have J1 := hide J10
  have J2 := hide J20
  have qn0 := op_ne o0
  have qn1 := op_ne o1
  have qn2 := op_ne o2
  have qn3 := op_ne o3
  have qn4 := op_ne o4
  have qn5 := op_ne o5
  have qn6 := op_ne o6
  have qn7 := op_ne o7
  have qn8 := op_ne o8
  have qn9 := op_ne o9
  have qn10 := op_ne o10
  have qn11 := op_ne o11
  have qn12 := op_ne o12
  have qn13 := op_ne o13
  have qn14 := op_ne o14
  have qn15 := op_ne o15
  clear o0 o1 o2 o3 o4 o5 o6 o7 o8 o9 o10 o11 o12 o13 o14 o15
  unfold Vc at J1 J2 ⊢
  clear J10 J20
  obtain ⟨W2, hW2, b1, b2, b3, hb, hz⟩ := box_box_out W k0 n0 t0 k1 n1 t1
  obtain ⟨c0, c1, c2, -, -, -, lt⟩ := b1.all
  have B2 := hide b2
  have B3 := hide b3
  have HB := hide hb
  clear b1 b2 b3 hb hz
  go_enter Tryd.func13, Tryd.ntmps13
  go_wp2_with (first
    | (go_at_call 26
       refine (unhide J1 _).mono ?_
       clear J1
       rintro e w1 ⟨rfl, hb1⟩
       obtain ⟨W3, hW3, e1, e3, e4⟩ := new_box w1 k n t
       have hb4 := Below.up hb1 e3
       (try have Z1 := hide ((unhide Z1).up hb4)); (try have Z2 := hide ((unhide Z2).up hb4)); have B2 := hide ((unhide B2).up hb4); have B3 := hide ((unhide B3).up hb4); have HB := hide (Below.up (unhide HB) hb4); clear hb4
       have Z1 := hide e1
       obtain ⟨x0, x1, x2, -, -, -, ly⟩ := (unhide B2).all
       (try obtain ⟨c0, c1, c2, -, -, -, lt⟩ := (unhide Z1).all); (try obtain ⟨x0, x1, x2, -, -, -, ly⟩ := (unhide Z2).all); obtain ⟨d0, d1, d2, d3, d4, g0, g1, g2, g3, g4, lt'⟩ := (unhide B3).all
       clear hb1 e1 e3 e4)
    | (go_at_call 26
       refine (unhide J2 _).mono ?_
       clear J2
       rintro e w1 ⟨rfl, hb1⟩
       obtain ⟨W3, hW3, e1, e3, e4⟩ := new_box w1 k' n' t'
       have hb4 := Below.up hb1 e3
       (try have Z1 := hide ((unhide Z1).up hb4)); (try have Z2 := hide ((unhide Z2).up hb4)); have B2 := hide ((unhide B2).up hb4); have B3 := hide ((unhide B3).up hb4); have HB := hide (Below.up (unhide HB) hb4); clear hb4
       have Z2 := hide e1
       obtain ⟨x0, x1, x2, -, -, -, ly⟩ := (unhide B2).all
       (try obtain ⟨c0, c1, c2, -, -, -, lt⟩ := (unhide Z1).all); (try obtain ⟨x0, x1, x2, -, -, -, ly⟩ := (unhide Z2).all); obtain ⟨d0, d1, d2, d3, d4, g0, g1, g2, g3, g4, lt'⟩ := (unhide B3).all
       clear hb1 e1 e3 e4)
    | fail)
  exact ret_o Tryd.results13 rfl (unhide B3) rfl (unhide HB) (by omega) rfl
theorem rbt_none_B (n k' n' : Int) (t t' : ByteArray) (op : ByteArray) (k0 n0 k1 n1 : Int) (t0 t1 : ByteArray) (J10 : Ret 26 #[.agg (Vc k0 n0 t0)] (.agg (Vc 3 n t))) (J20 : Ret 26 #[.agg (Vc k1 n1 t1)] (.agg (Vc k' n' t'))) (e2 : (k' == 3) = false) (o0 : op ≠ ⟨#[61, 61, 61]⟩) (o1 : op ≠ ⟨#[33, 61, 61]⟩) (o2 : op ≠ ⟨#[43]⟩) (o3 : op ≠ ⟨#[45]⟩) (o4 : op ≠ ⟨#[42]⟩) (o5 : op ≠ ⟨#[37]⟩) (o6 : op ≠ ⟨#[38]⟩) (o7 : op ≠ ⟨#[124]⟩) (o8 : op ≠ ⟨#[94]⟩) (o9 : op ≠ ⟨#[60, 60]⟩) (o10 : op ≠ ⟨#[62, 62]⟩) (o11 : op ≠ ⟨#[62, 62, 62]⟩) (o12 : op ≠ ⟨#[60]⟩) (o13 : op ≠ ⟨#[60, 61]⟩) (o14 : op ≠ ⟨#[62]⟩) (o15 : op ≠ ⟨#[62, 61]⟩) : Ret 13 #[.string op, .agg (Vc k0 n0 t0), .agg (Vc k1 n1 t1)] (.agg (Oc 0 0 ByteArray.empty ⟨#[]⟩ 0)) := by
  intro W
  have J1 := hide J10
  have J2 := hide J20
  have qn0 := op_ne o0
  have qn1 := op_ne o1
  have qn2 := op_ne o2
  have qn3 := op_ne o3
  have qn4 := op_ne o4
  have qn5 := op_ne o5
  have qn6 := op_ne o6
  have qn7 := op_ne o7
  have qn8 := op_ne o8
  have qn9 := op_ne o9
  have qn10 := op_ne o10
  have qn11 := op_ne o11
  have qn12 := op_ne o12
  have qn13 := op_ne o13
  have qn14 := op_ne o14
  have qn15 := op_ne o15
  clear o0 o1 o2 o3 o4 o5 o6 o7 o8 o9 o10 o11 o12 o13 o14 o15
  unfold Vc at J1 J2 ⊢
  clear J10 J20
  obtain ⟨W2, hW2, b1, b2, b3, hb, hz⟩ := box_box_out W k0 n0 t0 k1 n1 t1
  obtain ⟨c0, c1, c2, -, -, -, lt⟩ := b1.all
  have B2 := hide b2
  have B3 := hide b3
  have HB := hide hb
  clear b1 b2 b3 hb hz
  go_enter Tryd.func13, Tryd.ntmps13
  go_wp2_with (first
    | (go_at_call 26
       refine (unhide J1 _).mono ?_
       clear J1
       rintro e w1 ⟨rfl, hb1⟩
       obtain ⟨W3, hW3, e1, e3, e4⟩ := new_box w1 3 n t
       have hb4 := Below.up hb1 e3
       (try have Z1 := hide ((unhide Z1).up hb4)); (try have Z2 := hide ((unhide Z2).up hb4)); have B2 := hide ((unhide B2).up hb4); have B3 := hide ((unhide B3).up hb4); have HB := hide (Below.up (unhide HB) hb4); clear hb4
       have Z1 := hide e1
       obtain ⟨x0, x1, x2, -, -, -, ly⟩ := (unhide B2).all
       (try obtain ⟨c0, c1, c2, -, -, -, lt⟩ := (unhide Z1).all); (try obtain ⟨x0, x1, x2, -, -, -, ly⟩ := (unhide Z2).all); obtain ⟨d0, d1, d2, d3, d4, g0, g1, g2, g3, g4, lt'⟩ := (unhide B3).all
       clear hb1 e1 e3 e4)
    | (go_at_call 26
       refine (unhide J2 _).mono ?_
       clear J2
       rintro e w1 ⟨rfl, hb1⟩
       obtain ⟨W3, hW3, e1, e3, e4⟩ := new_box w1 k' n' t'
       have hb4 := Below.up hb1 e3
       (try have Z1 := hide ((unhide Z1).up hb4)); (try have Z2 := hide ((unhide Z2).up hb4)); have B2 := hide ((unhide B2).up hb4); have B3 := hide ((unhide B3).up hb4); have HB := hide (Below.up (unhide HB) hb4); clear hb4
       have Z2 := hide e1
       obtain ⟨x0, x1, x2, -, -, -, ly⟩ := (unhide B2).all
       (try obtain ⟨c0, c1, c2, -, -, -, lt⟩ := (unhide Z1).all); (try obtain ⟨x0, x1, x2, -, -, -, ly⟩ := (unhide Z2).all); obtain ⟨d0, d1, d2, d3, d4, g0, g1, g2, g3, g4, lt'⟩ := (unhide B3).all
       clear hb1 e1 e3 e4)
    | fail)
  exact ret_o Tryd.results13 rfl (unhide B3) rfl (unhide HB) (by omega) rfl
theorem rbt_none_C (n n' : Int) (t t' : ByteArray) (op : ByteArray) (k0 n0 k1 n1 : Int) (t0 t1 : ByteArray) (J10 : Ret 26 #[.agg (Vc k0 n0 t0)] (.agg (Vc 4 n t))) (J20 : Ret 26 #[.agg (Vc k1 n1 t1)] (.agg (Vc 4 n' t')))  (o0 : op ≠ ⟨#[61, 61, 61]⟩) (o1 : op ≠ ⟨#[33, 61, 61]⟩) (o2 : op ≠ ⟨#[43]⟩) (o3 : op ≠ ⟨#[45]⟩) (o4 : op ≠ ⟨#[42]⟩) (o5 : op ≠ ⟨#[37]⟩) (o6 : op ≠ ⟨#[38]⟩) (o7 : op ≠ ⟨#[124]⟩) (o8 : op ≠ ⟨#[94]⟩) (o9 : op ≠ ⟨#[60, 60]⟩) (o10 : op ≠ ⟨#[62, 62]⟩) (o11 : op ≠ ⟨#[62, 62, 62]⟩) (o12 : op ≠ ⟨#[60]⟩) (o13 : op ≠ ⟨#[60, 61]⟩) (o14 : op ≠ ⟨#[62]⟩) (o15 : op ≠ ⟨#[62, 61]⟩) : Ret 13 #[.string op, .agg (Vc k0 n0 t0), .agg (Vc k1 n1 t1)] (.agg (Oc 0 0 ByteArray.empty ⟨#[]⟩ 0)) := by
  intro W
  have J1 := hide J10
  have J2 := hide J20
  have qn0 := op_ne o0
  have qn1 := op_ne o1
  have qn2 := op_ne o2
  have qn3 := op_ne o3
  have qn4 := op_ne o4
  have qn5 := op_ne o5
  have qn6 := op_ne o6
  have qn7 := op_ne o7
  have qn8 := op_ne o8
  have qn9 := op_ne o9
  have qn10 := op_ne o10
  have qn11 := op_ne o11
  have qn12 := op_ne o12
  have qn13 := op_ne o13
  have qn14 := op_ne o14
  have qn15 := op_ne o15
  clear o0 o1 o2 o3 o4 o5 o6 o7 o8 o9 o10 o11 o12 o13 o14 o15
  unfold Vc at J1 J2 ⊢
  clear J10 J20
  obtain ⟨W2, hW2, b1, b2, b3, hb, hz⟩ := box_box_out W k0 n0 t0 k1 n1 t1
  obtain ⟨c0, c1, c2, -, -, -, lt⟩ := b1.all
  have B2 := hide b2
  have B3 := hide b3
  have HB := hide hb
  clear b1 b2 b3 hb hz
  go_enter Tryd.func13, Tryd.ntmps13
  go_wp2_with (first
    | (go_at_call 26
       refine (unhide J1 _).mono ?_
       clear J1
       rintro e w1 ⟨rfl, hb1⟩
       obtain ⟨W3, hW3, e1, e3, e4⟩ := new_box w1 4 n t
       have hb4 := Below.up hb1 e3
       (try have Z1 := hide ((unhide Z1).up hb4)); (try have Z2 := hide ((unhide Z2).up hb4)); have B2 := hide ((unhide B2).up hb4); have B3 := hide ((unhide B3).up hb4); have HB := hide (Below.up (unhide HB) hb4); clear hb4
       have Z1 := hide e1
       obtain ⟨x0, x1, x2, -, -, -, ly⟩ := (unhide B2).all
       (try obtain ⟨c0, c1, c2, -, -, -, lt⟩ := (unhide Z1).all); (try obtain ⟨x0, x1, x2, -, -, -, ly⟩ := (unhide Z2).all); obtain ⟨d0, d1, d2, d3, d4, g0, g1, g2, g3, g4, lt'⟩ := (unhide B3).all
       clear hb1 e1 e3 e4)
    | (go_at_call 26
       refine (unhide J2 _).mono ?_
       clear J2
       rintro e w1 ⟨rfl, hb1⟩
       obtain ⟨W3, hW3, e1, e3, e4⟩ := new_box w1 4 n' t'
       have hb4 := Below.up hb1 e3
       (try have Z1 := hide ((unhide Z1).up hb4)); (try have Z2 := hide ((unhide Z2).up hb4)); have B2 := hide ((unhide B2).up hb4); have B3 := hide ((unhide B3).up hb4); have HB := hide (Below.up (unhide HB) hb4); clear hb4
       have Z2 := hide e1
       obtain ⟨x0, x1, x2, -, -, -, ly⟩ := (unhide B2).all
       (try obtain ⟨c0, c1, c2, -, -, -, lt⟩ := (unhide Z1).all); (try obtain ⟨x0, x1, x2, -, -, -, ly⟩ := (unhide Z2).all); obtain ⟨d0, d1, d2, d3, d4, g0, g1, g2, g3, g4, lt'⟩ := (unhide B3).all
       clear hb1 e1 e3 e4)
    | fail)
  exact ret_o Tryd.results13 rfl (unhide B3) rfl (unhide HB) (by omega) rfl
theorem rbt_none_D (n k' n' : Int) (t t' : ByteArray) (op : ByteArray) (k0 n0 k1 n1 : Int) (t0 t1 : ByteArray) (J10 : Ret 26 #[.agg (Vc k0 n0 t0)] (.agg (Vc 4 n t))) (J20 : Ret 26 #[.agg (Vc k1 n1 t1)] (.agg (Vc k' n' t'))) (e4 : (k' == 4) = false) (o0 : op ≠ ⟨#[61, 61, 61]⟩) (o1 : op ≠ ⟨#[33, 61, 61]⟩) (o2 : op ≠ ⟨#[43]⟩) (o3 : op ≠ ⟨#[45]⟩) (o4 : op ≠ ⟨#[42]⟩) (o5 : op ≠ ⟨#[37]⟩) (o6 : op ≠ ⟨#[38]⟩) (o7 : op ≠ ⟨#[124]⟩) (o8 : op ≠ ⟨#[94]⟩) (o9 : op ≠ ⟨#[60, 60]⟩) (o10 : op ≠ ⟨#[62, 62]⟩) (o11 : op ≠ ⟨#[62, 62, 62]⟩) (o12 : op ≠ ⟨#[60]⟩) (o13 : op ≠ ⟨#[60, 61]⟩) (o14 : op ≠ ⟨#[62]⟩) (o15 : op ≠ ⟨#[62, 61]⟩) : Ret 13 #[.string op, .agg (Vc k0 n0 t0), .agg (Vc k1 n1 t1)] (.agg (Oc 0 0 ByteArray.empty ⟨#[]⟩ 0)) := by
  intro W
  have J1 := hide J10
  have J2 := hide J20
  have qn0 := op_ne o0
  have qn1 := op_ne o1
  have qn2 := op_ne o2
  have qn3 := op_ne o3
  have qn4 := op_ne o4
  have qn5 := op_ne o5
  have qn6 := op_ne o6
  have qn7 := op_ne o7
  have qn8 := op_ne o8
  have qn9 := op_ne o9
  have qn10 := op_ne o10
  have qn11 := op_ne o11
  have qn12 := op_ne o12
  have qn13 := op_ne o13
  have qn14 := op_ne o14
  have qn15 := op_ne o15
  clear o0 o1 o2 o3 o4 o5 o6 o7 o8 o9 o10 o11 o12 o13 o14 o15
  unfold Vc at J1 J2 ⊢
  clear J10 J20
  obtain ⟨W2, hW2, b1, b2, b3, hb, hz⟩ := box_box_out W k0 n0 t0 k1 n1 t1
  obtain ⟨c0, c1, c2, -, -, -, lt⟩ := b1.all
  have B2 := hide b2
  have B3 := hide b3
  have HB := hide hb
  clear b1 b2 b3 hb hz
  go_enter Tryd.func13, Tryd.ntmps13
  go_wp2_with (first
    | (go_at_call 26
       refine (unhide J1 _).mono ?_
       clear J1
       rintro e w1 ⟨rfl, hb1⟩
       obtain ⟨W3, hW3, e1, e3, e4⟩ := new_box w1 4 n t
       have hb4 := Below.up hb1 e3
       (try have Z1 := hide ((unhide Z1).up hb4)); (try have Z2 := hide ((unhide Z2).up hb4)); have B2 := hide ((unhide B2).up hb4); have B3 := hide ((unhide B3).up hb4); have HB := hide (Below.up (unhide HB) hb4); clear hb4
       have Z1 := hide e1
       obtain ⟨x0, x1, x2, -, -, -, ly⟩ := (unhide B2).all
       (try obtain ⟨c0, c1, c2, -, -, -, lt⟩ := (unhide Z1).all); (try obtain ⟨x0, x1, x2, -, -, -, ly⟩ := (unhide Z2).all); obtain ⟨d0, d1, d2, d3, d4, g0, g1, g2, g3, g4, lt'⟩ := (unhide B3).all
       clear hb1 e1 e3 e4)
    | (go_at_call 26
       refine (unhide J2 _).mono ?_
       clear J2
       rintro e w1 ⟨rfl, hb1⟩
       obtain ⟨W3, hW3, e1, e3, e4⟩ := new_box w1 k' n' t'
       have hb4 := Below.up hb1 e3
       (try have Z1 := hide ((unhide Z1).up hb4)); (try have Z2 := hide ((unhide Z2).up hb4)); have B2 := hide ((unhide B2).up hb4); have B3 := hide ((unhide B3).up hb4); have HB := hide (Below.up (unhide HB) hb4); clear hb4
       have Z2 := hide e1
       obtain ⟨x0, x1, x2, -, -, -, ly⟩ := (unhide B2).all
       (try obtain ⟨c0, c1, c2, -, -, -, lt⟩ := (unhide Z1).all); (try obtain ⟨x0, x1, x2, -, -, -, ly⟩ := (unhide Z2).all); obtain ⟨d0, d1, d2, d3, d4, g0, g1, g2, g3, g4, lt'⟩ := (unhide B3).all
       clear hb1 e1 e3 e4)
    | fail)
  exact ret_o Tryd.results13 rfl (unhide B3) rfl (unhide HB) (by omega) rfl
theorem rbt_none_E (n n' : Int) (t t' : ByteArray) (op : ByteArray) (k0 n0 k1 n1 : Int) (t0 t1 : ByteArray) (J10 : Ret 26 #[.agg (Vc k0 n0 t0)] (.agg (Vc 3 n t))) (J20 : Ret 26 #[.agg (Vc k1 n1 t1)] (.agg (Vc 3 n' t')))  (o0 : op ≠ ⟨#[61, 61, 61]⟩) (o1 : op ≠ ⟨#[33, 61, 61]⟩) (o2 : op ≠ ⟨#[43]⟩) (o3 : op ≠ ⟨#[45]⟩) (o4 : op ≠ ⟨#[42]⟩) (o5 : op ≠ ⟨#[37]⟩) (o6 : op ≠ ⟨#[38]⟩) (o7 : op ≠ ⟨#[124]⟩) (o8 : op ≠ ⟨#[94]⟩) (o9 : op ≠ ⟨#[60, 60]⟩) (o10 : op ≠ ⟨#[62, 62]⟩) (o11 : op ≠ ⟨#[62, 62, 62]⟩) (o12 : op ≠ ⟨#[60]⟩) (o13 : op ≠ ⟨#[60, 61]⟩) (o14 : op ≠ ⟨#[62]⟩) (o15 : op ≠ ⟨#[62, 61]⟩) : Ret 13 #[.string op, .agg (Vc k0 n0 t0), .agg (Vc k1 n1 t1)] (.agg (Oc 0 0 ByteArray.empty ⟨#[]⟩ 0)) := by
  intro W
  have J1 := hide J10
  have J2 := hide J20
  have qn0 := op_ne o0
  have qn1 := op_ne o1
  have qn2 := op_ne o2
  have qn3 := op_ne o3
  have qn4 := op_ne o4
  have qn5 := op_ne o5
  have qn6 := op_ne o6
  have qn7 := op_ne o7
  have qn8 := op_ne o8
  have qn9 := op_ne o9
  have qn10 := op_ne o10
  have qn11 := op_ne o11
  have qn12 := op_ne o12
  have qn13 := op_ne o13
  have qn14 := op_ne o14
  have qn15 := op_ne o15
  clear o0 o1 o2 o3 o4 o5 o6 o7 o8 o9 o10 o11 o12 o13 o14 o15
  unfold Vc at J1 J2 ⊢
  clear J10 J20
  obtain ⟨W2, hW2, b1, b2, b3, hb, hz⟩ := box_box_out W k0 n0 t0 k1 n1 t1
  obtain ⟨c0, c1, c2, -, -, -, lt⟩ := b1.all
  have B2 := hide b2
  have B3 := hide b3
  have HB := hide hb
  clear b1 b2 b3 hb hz
  go_enter Tryd.func13, Tryd.ntmps13
  go_wp2_with (first
    | (go_at_call 26
       refine (unhide J1 _).mono ?_
       clear J1
       rintro e w1 ⟨rfl, hb1⟩
       obtain ⟨W3, hW3, e1, e3, e4⟩ := new_box w1 3 n t
       have hb4 := Below.up hb1 e3
       (try have Z1 := hide ((unhide Z1).up hb4)); (try have Z2 := hide ((unhide Z2).up hb4)); have B2 := hide ((unhide B2).up hb4); have B3 := hide ((unhide B3).up hb4); have HB := hide (Below.up (unhide HB) hb4); clear hb4
       have Z1 := hide e1
       obtain ⟨x0, x1, x2, -, -, -, ly⟩ := (unhide B2).all
       (try obtain ⟨c0, c1, c2, -, -, -, lt⟩ := (unhide Z1).all); (try obtain ⟨x0, x1, x2, -, -, -, ly⟩ := (unhide Z2).all); obtain ⟨d0, d1, d2, d3, d4, g0, g1, g2, g3, g4, lt'⟩ := (unhide B3).all
       clear hb1 e1 e3 e4)
    | (go_at_call 26
       refine (unhide J2 _).mono ?_
       clear J2
       rintro e w1 ⟨rfl, hb1⟩
       obtain ⟨W3, hW3, e1, e3, e4⟩ := new_box w1 3 n' t'
       have hb4 := Below.up hb1 e3
       (try have Z1 := hide ((unhide Z1).up hb4)); (try have Z2 := hide ((unhide Z2).up hb4)); have B2 := hide ((unhide B2).up hb4); have B3 := hide ((unhide B3).up hb4); have HB := hide (Below.up (unhide HB) hb4); clear hb4
       have Z2 := hide e1
       obtain ⟨x0, x1, x2, -, -, -, ly⟩ := (unhide B2).all
       (try obtain ⟨c0, c1, c2, -, -, -, lt⟩ := (unhide Z1).all); (try obtain ⟨x0, x1, x2, -, -, -, ly⟩ := (unhide Z2).all); obtain ⟨d0, d1, d2, d3, d4, g0, g1, g2, g3, g4, lt'⟩ := (unhide B3).all
       clear hb1 e1 e3 e4)
    | fail)
  exact ret_o Tryd.results13 rfl (unhide B3) rfl (unhide HB) (by omega) rfl
end Go.Proofs.YthjlhdldomfikaaDoor

/- The reference's Binary of + where it throws. -/
namespace Go.Proofs.YthjlhdldomfikaaDoor
set_option linter.unusedSimpArgs false
set_option linter.unusedVariables false
set_option maxRecDepth 100000
set_option maxHeartbeats 4000000
open Go.RowKit Go.Shelf

theorem rbt_add_A1 (k n k' n' : Int) (t t' : ByteArray) (k0 n0 k1 n1 : Int) (t0 t1 : ByteArray) (J10 : Ret 26 #[.agg (Vc k0 n0 t0)] (.agg (Vc k n t))) (J20 : Ret 26 #[.agg (Vc k1 n1 t1)] (.agg (Vc k' n' t'))) (e1 : (k == 3) = false) (e3 : (k == 4) = false) (e5 : (k' == 4) = false) : Ret 13 #[.string ⟨#[43]⟩, .agg (Vc k0 n0 t0), .agg (Vc k1 n1 t1)] (.agg (Oc 0 0 ByteArray.empty plusT 1)) := by
  intro W
  have J1 := hide J10
  have J2 := hide J20
  unfold Vc at J1 J2 ⊢
  clear J10 J20
  obtain ⟨W2, hW2, b1, b2, b3, hb, hz⟩ := box_box_out W k0 n0 t0 k1 n1 t1
  obtain ⟨c0, c1, c2, -, -, -, lt⟩ := b1.all
  have B2 := hide b2
  have B3 := hide b3
  have HB := hide hb
  clear b1 b2 b3 hb hz
  go_enter Tryd.func13, Tryd.ntmps13
  go_wp2_with (first
    | (go_at_call 26
       refine (unhide J1 _).mono ?_
       clear J1
       rintro e w1 ⟨rfl, hb1⟩
       obtain ⟨W3, hW3, e1, e3, e4⟩ := new_box w1 k n t
       have hb4 := Below.up hb1 e3
       (try have Z1 := hide ((unhide Z1).up hb4)); (try have Z2 := hide ((unhide Z2).up hb4)); have B2 := hide ((unhide B2).up hb4); have B3 := hide ((unhide B3).up hb4); have HB := hide (Below.up (unhide HB) hb4); clear hb4
       have Z1 := hide e1
       obtain ⟨x0, x1, x2, -, -, -, ly⟩ := (unhide B2).all
       (try obtain ⟨c0, c1, c2, -, -, -, lt⟩ := (unhide Z1).all); (try obtain ⟨x0, x1, x2, -, -, -, ly⟩ := (unhide Z2).all); obtain ⟨d0, d1, d2, d3, d4, g0, g1, g2, g3, g4, lt'⟩ := (unhide B3).all
       clear hb1 e1 e3 e4)
    | (go_at_call 26
       refine (unhide J2 _).mono ?_
       clear J2
       rintro e w1 ⟨rfl, hb1⟩
       obtain ⟨W3, hW3, e1, e3, e4⟩ := new_box w1 k' n' t'
       have hb4 := Below.up hb1 e3
       (try have Z1 := hide ((unhide Z1).up hb4)); (try have Z2 := hide ((unhide Z2).up hb4)); have B2 := hide ((unhide B2).up hb4); have B3 := hide ((unhide B3).up hb4); have HB := hide (Below.up (unhide HB) hb4); clear hb4
       have Z2 := hide e1
       obtain ⟨x0, x1, x2, -, -, -, ly⟩ := (unhide B2).all
       (try obtain ⟨c0, c1, c2, -, -, -, lt⟩ := (unhide Z1).all); (try obtain ⟨x0, x1, x2, -, -, -, ly⟩ := (unhide Z2).all); obtain ⟨d0, d1, d2, d3, d4, g0, g1, g2, g3, g4, lt'⟩ := (unhide B3).all
       clear hb1 e1 e3 e4)
    | (go_at_call 28; refine (rThrow_any plusT _).mono ?_; rintro e w4 ⟨rfl, hb4⟩; unfold Oc; (try have Z1 := hide ((unhide Z1).up hb4)); (try have Z2 := hide ((unhide Z2).up hb4)); have B2 := hide ((unhide B2).up hb4); have B3 := hide ((unhide B3).up hb4); have HB := hide (Below.up (unhide HB) hb4); clear hb4; (try obtain ⟨c0, c1, c2, -, -, -, lt⟩ := (unhide Z1).all); (try obtain ⟨x0, x1, x2, -, -, -, ly⟩ := (unhide Z2).all); obtain ⟨d0, d1, d2, d3, d4, g0, g1, g2, g3, g4, lt'⟩ := (unhide B3).all))
  exact ret_o Tryd.results13 rfl (unhide B3) rfl (unhide HB) (by omega) rfl
theorem rbt_add_A2 (n n' : Int) (t t' : ByteArray) (k0 n0 k1 n1 : Int) (t0 t1 : ByteArray) (J10 : Ret 26 #[.agg (Vc k0 n0 t0)] (.agg (Vc 5 n t))) (J20 : Ret 26 #[.agg (Vc k1 n1 t1)] (.agg (Vc 4 n' t')))  : Ret 13 #[.string ⟨#[43]⟩, .agg (Vc k0 n0 t0), .agg (Vc k1 n1 t1)] (.agg (Oc 0 0 ByteArray.empty plusT 1)) := by
  intro W
  have J1 := hide J10
  have J2 := hide J20
  unfold Vc at J1 J2 ⊢
  clear J10 J20
  obtain ⟨W2, hW2, b1, b2, b3, hb, hz⟩ := box_box_out W k0 n0 t0 k1 n1 t1
  obtain ⟨c0, c1, c2, -, -, -, lt⟩ := b1.all
  have B2 := hide b2
  have B3 := hide b3
  have HB := hide hb
  clear b1 b2 b3 hb hz
  go_enter Tryd.func13, Tryd.ntmps13
  go_wp2_with (first
    | (go_at_call 26
       refine (unhide J1 _).mono ?_
       clear J1
       rintro e w1 ⟨rfl, hb1⟩
       obtain ⟨W3, hW3, e1, e3, e4⟩ := new_box w1 5 n t
       have hb4 := Below.up hb1 e3
       (try have Z1 := hide ((unhide Z1).up hb4)); (try have Z2 := hide ((unhide Z2).up hb4)); have B2 := hide ((unhide B2).up hb4); have B3 := hide ((unhide B3).up hb4); have HB := hide (Below.up (unhide HB) hb4); clear hb4
       have Z1 := hide e1
       obtain ⟨x0, x1, x2, -, -, -, ly⟩ := (unhide B2).all
       (try obtain ⟨c0, c1, c2, -, -, -, lt⟩ := (unhide Z1).all); (try obtain ⟨x0, x1, x2, -, -, -, ly⟩ := (unhide Z2).all); obtain ⟨d0, d1, d2, d3, d4, g0, g1, g2, g3, g4, lt'⟩ := (unhide B3).all
       clear hb1 e1 e3 e4)
    | (go_at_call 26
       refine (unhide J2 _).mono ?_
       clear J2
       rintro e w1 ⟨rfl, hb1⟩
       obtain ⟨W3, hW3, e1, e3, e4⟩ := new_box w1 4 n' t'
       have hb4 := Below.up hb1 e3
       (try have Z1 := hide ((unhide Z1).up hb4)); (try have Z2 := hide ((unhide Z2).up hb4)); have B2 := hide ((unhide B2).up hb4); have B3 := hide ((unhide B3).up hb4); have HB := hide (Below.up (unhide HB) hb4); clear hb4
       have Z2 := hide e1
       obtain ⟨x0, x1, x2, -, -, -, ly⟩ := (unhide B2).all
       (try obtain ⟨c0, c1, c2, -, -, -, lt⟩ := (unhide Z1).all); (try obtain ⟨x0, x1, x2, -, -, -, ly⟩ := (unhide Z2).all); obtain ⟨d0, d1, d2, d3, d4, g0, g1, g2, g3, g4, lt'⟩ := (unhide B3).all
       clear hb1 e1 e3 e4)
    | (go_at_call 28; refine (rThrow_any plusT _).mono ?_; rintro e w4 ⟨rfl, hb4⟩; unfold Oc; (try have Z1 := hide ((unhide Z1).up hb4)); (try have Z2 := hide ((unhide Z2).up hb4)); have B2 := hide ((unhide B2).up hb4); have B3 := hide ((unhide B3).up hb4); have HB := hide (Below.up (unhide HB) hb4); clear hb4; (try obtain ⟨c0, c1, c2, -, -, -, lt⟩ := (unhide Z1).all); (try obtain ⟨x0, x1, x2, -, -, -, ly⟩ := (unhide Z2).all); obtain ⟨d0, d1, d2, d3, d4, g0, g1, g2, g3, g4, lt'⟩ := (unhide B3).all))
  exact ret_o Tryd.results13 rfl (unhide B3) rfl (unhide HB) (by omega) rfl
theorem rbt_add_B1 (n k' n' : Int) (t t' : ByteArray) (k0 n0 k1 n1 : Int) (t0 t1 : ByteArray) (J10 : Ret 26 #[.agg (Vc k0 n0 t0)] (.agg (Vc 3 n t))) (J20 : Ret 26 #[.agg (Vc k1 n1 t1)] (.agg (Vc k' n' t'))) (e2 : (k' == 3) = false) (e5 : (k' == 4) = false) : Ret 13 #[.string ⟨#[43]⟩, .agg (Vc k0 n0 t0), .agg (Vc k1 n1 t1)] (.agg (Oc 0 0 ByteArray.empty plusT 1)) := by
  intro W
  have J1 := hide J10
  have J2 := hide J20
  unfold Vc at J1 J2 ⊢
  clear J10 J20
  obtain ⟨W2, hW2, b1, b2, b3, hb, hz⟩ := box_box_out W k0 n0 t0 k1 n1 t1
  obtain ⟨c0, c1, c2, -, -, -, lt⟩ := b1.all
  have B2 := hide b2
  have B3 := hide b3
  have HB := hide hb
  clear b1 b2 b3 hb hz
  go_enter Tryd.func13, Tryd.ntmps13
  go_wp2_with (first
    | (go_at_call 26
       refine (unhide J1 _).mono ?_
       clear J1
       rintro e w1 ⟨rfl, hb1⟩
       obtain ⟨W3, hW3, e1, e3, e4⟩ := new_box w1 3 n t
       have hb4 := Below.up hb1 e3
       (try have Z1 := hide ((unhide Z1).up hb4)); (try have Z2 := hide ((unhide Z2).up hb4)); have B2 := hide ((unhide B2).up hb4); have B3 := hide ((unhide B3).up hb4); have HB := hide (Below.up (unhide HB) hb4); clear hb4
       have Z1 := hide e1
       obtain ⟨x0, x1, x2, -, -, -, ly⟩ := (unhide B2).all
       (try obtain ⟨c0, c1, c2, -, -, -, lt⟩ := (unhide Z1).all); (try obtain ⟨x0, x1, x2, -, -, -, ly⟩ := (unhide Z2).all); obtain ⟨d0, d1, d2, d3, d4, g0, g1, g2, g3, g4, lt'⟩ := (unhide B3).all
       clear hb1 e1 e3 e4)
    | (go_at_call 26
       refine (unhide J2 _).mono ?_
       clear J2
       rintro e w1 ⟨rfl, hb1⟩
       obtain ⟨W3, hW3, e1, e3, e4⟩ := new_box w1 k' n' t'
       have hb4 := Below.up hb1 e3
       (try have Z1 := hide ((unhide Z1).up hb4)); (try have Z2 := hide ((unhide Z2).up hb4)); have B2 := hide ((unhide B2).up hb4); have B3 := hide ((unhide B3).up hb4); have HB := hide (Below.up (unhide HB) hb4); clear hb4
       have Z2 := hide e1
       obtain ⟨x0, x1, x2, -, -, -, ly⟩ := (unhide B2).all
       (try obtain ⟨c0, c1, c2, -, -, -, lt⟩ := (unhide Z1).all); (try obtain ⟨x0, x1, x2, -, -, -, ly⟩ := (unhide Z2).all); obtain ⟨d0, d1, d2, d3, d4, g0, g1, g2, g3, g4, lt'⟩ := (unhide B3).all
       clear hb1 e1 e3 e4)
    | (go_at_call 28; refine (rThrow_any plusT _).mono ?_; rintro e w4 ⟨rfl, hb4⟩; unfold Oc; (try have Z1 := hide ((unhide Z1).up hb4)); (try have Z2 := hide ((unhide Z2).up hb4)); have B2 := hide ((unhide B2).up hb4); have B3 := hide ((unhide B3).up hb4); have HB := hide (Below.up (unhide HB) hb4); clear hb4; (try obtain ⟨c0, c1, c2, -, -, -, lt⟩ := (unhide Z1).all); (try obtain ⟨x0, x1, x2, -, -, -, ly⟩ := (unhide Z2).all); obtain ⟨d0, d1, d2, d3, d4, g0, g1, g2, g3, g4, lt'⟩ := (unhide B3).all))
  exact ret_o Tryd.results13 rfl (unhide B3) rfl (unhide HB) (by omega) rfl
theorem rbt_add_D1 (n n' : Int) (t t' : ByteArray) (k0 n0 k1 n1 : Int) (t0 t1 : ByteArray) (J10 : Ret 26 #[.agg (Vc k0 n0 t0)] (.agg (Vc 4 n t))) (J20 : Ret 26 #[.agg (Vc k1 n1 t1)] (.agg (Vc 5 n' t')))  : Ret 13 #[.string ⟨#[43]⟩, .agg (Vc k0 n0 t0), .agg (Vc k1 n1 t1)] (.agg (Oc 0 0 ByteArray.empty plusT 1)) := by
  intro W
  have J1 := hide J10
  have J2 := hide J20
  unfold Vc at J1 J2 ⊢
  clear J10 J20
  obtain ⟨W2, hW2, b1, b2, b3, hb, hz⟩ := box_box_out W k0 n0 t0 k1 n1 t1
  obtain ⟨c0, c1, c2, -, -, -, lt⟩ := b1.all
  have B2 := hide b2
  have B3 := hide b3
  have HB := hide hb
  clear b1 b2 b3 hb hz
  go_enter Tryd.func13, Tryd.ntmps13
  go_wp2_with (first
    | (go_at_call 26
       refine (unhide J1 _).mono ?_
       clear J1
       rintro e w1 ⟨rfl, hb1⟩
       obtain ⟨W3, hW3, e1, e3, e4⟩ := new_box w1 4 n t
       have hb4 := Below.up hb1 e3
       (try have Z1 := hide ((unhide Z1).up hb4)); (try have Z2 := hide ((unhide Z2).up hb4)); have B2 := hide ((unhide B2).up hb4); have B3 := hide ((unhide B3).up hb4); have HB := hide (Below.up (unhide HB) hb4); clear hb4
       have Z1 := hide e1
       obtain ⟨x0, x1, x2, -, -, -, ly⟩ := (unhide B2).all
       (try obtain ⟨c0, c1, c2, -, -, -, lt⟩ := (unhide Z1).all); (try obtain ⟨x0, x1, x2, -, -, -, ly⟩ := (unhide Z2).all); obtain ⟨d0, d1, d2, d3, d4, g0, g1, g2, g3, g4, lt'⟩ := (unhide B3).all
       clear hb1 e1 e3 e4)
    | (go_at_call 26
       refine (unhide J2 _).mono ?_
       clear J2
       rintro e w1 ⟨rfl, hb1⟩
       obtain ⟨W3, hW3, e1, e3, e4⟩ := new_box w1 5 n' t'
       have hb4 := Below.up hb1 e3
       (try have Z1 := hide ((unhide Z1).up hb4)); (try have Z2 := hide ((unhide Z2).up hb4)); have B2 := hide ((unhide B2).up hb4); have B3 := hide ((unhide B3).up hb4); have HB := hide (Below.up (unhide HB) hb4); clear hb4
       have Z2 := hide e1
       obtain ⟨x0, x1, x2, -, -, -, ly⟩ := (unhide B2).all
       (try obtain ⟨c0, c1, c2, -, -, -, lt⟩ := (unhide Z1).all); (try obtain ⟨x0, x1, x2, -, -, -, ly⟩ := (unhide Z2).all); obtain ⟨d0, d1, d2, d3, d4, g0, g1, g2, g3, g4, lt'⟩ := (unhide B3).all
       clear hb1 e1 e3 e4)
    | (go_at_call 28; refine (rThrow_any plusT _).mono ?_; rintro e w4 ⟨rfl, hb4⟩; unfold Oc; (try have Z1 := hide ((unhide Z1).up hb4)); (try have Z2 := hide ((unhide Z2).up hb4)); have B2 := hide ((unhide B2).up hb4); have B3 := hide ((unhide B3).up hb4); have HB := hide (Below.up (unhide HB) hb4); clear hb4; (try obtain ⟨c0, c1, c2, -, -, -, lt⟩ := (unhide Z1).all); (try obtain ⟨x0, x1, x2, -, -, -, ly⟩ := (unhide Z2).all); obtain ⟨d0, d1, d2, d3, d4, g0, g1, g2, g3, g4, lt'⟩ := (unhide B3).all))
  exact ret_o Tryd.results13 rfl (unhide B3) rfl (unhide HB) (by omega) rfl
end Go.Proofs.YthjlhdldomfikaaDoor

/- The reference's Binary of + where texts are put together. -/
namespace Go.Proofs.YthjlhdldomfikaaDoor
set_option linter.unusedSimpArgs false
set_option linter.unusedVariables false
set_option maxRecDepth 100000
set_option maxHeartbeats 4000000
open Go.RowKit Go.Shelf

theorem rbt_add_T1 (n n' : Int) (t t' : ByteArray) (sa sb sj : ByteArray) (k0 n0 k1 n1 : Int) (t0 t1 : ByteArray) (J10 : Ret 26 #[.agg (Vc k0 n0 t0)] (.agg (Vc 4 n t))) (J20 : Ret 26 #[.agg (Vc k1 n1 t1)] (.agg (Vc 4 n' t')))  (HX0 : Ret 17 #[.agg (Vc 4 n t)] (.string sa)) (HY0 : Ret 17 #[.agg (Vc 4 n' t')] (.string sb)) (hsj : sa ++ sb = sj) (hsm : sa.size + sb.size ≤ 9223372036854775807) (gk : (sj.size : Int) ≤ 9223372036854775807) (gj : ¬ (65536 : Int) < (sj.size : Int)) : Ret 13 #[.string ⟨#[43]⟩, .agg (Vc k0 n0 t0), .agg (Vc k1 n1 t1)] (.agg (Oc 4 0 sj ⟨#[]⟩ 0)) := by
  intro W
  have J1 := hide J10
  have J2 := hide J20
  have HX := hide HX0
  have HY := hide HY0
  unfold Vc at J1 J2 HX HY ⊢
  clear J10 J20 HX0 HY0
  have HNS := hide (show ¬ 9223372036854775807 < sa.size + sb.size by omega)
  have HSJ := hide hsj
  clear hsj hsm
  obtain ⟨W2, hW2, b1, b2, b3, hb, hz⟩ := box_box_out W k0 n0 t0 k1 n1 t1
  obtain ⟨c0, c1, c2, -, -, -, lt⟩ := b1.all
  have B2 := hide b2
  have B3 := hide b3
  have HB := hide hb
  clear b1 b2 b3 hb hz
  go_enter Tryd.func13, Tryd.ntmps13
  go_upto_region 14 with (first
    | (go_at_call 26
       refine (unhide J1 _).mono ?_
       clear J1
       rintro e w1 ⟨rfl, hb1⟩
       obtain ⟨W3, hW3, e1, e3, e4⟩ := new_box w1 4 n t
       have hb4 := Below.up hb1 e3
       (try have Z1 := hide ((unhide Z1).up hb4)); (try have Z2 := hide ((unhide Z2).up hb4)); have B2 := hide ((unhide B2).up hb4); have B3 := hide ((unhide B3).up hb4); have HB := hide (Below.up (unhide HB) hb4); clear hb4
       have Z1 := hide e1
       obtain ⟨x0, x1, x2, -, -, -, ly⟩ := (unhide B2).all
       (try obtain ⟨c0, c1, c2, -, -, -, lt⟩ := (unhide Z1).all); (try obtain ⟨x0, x1, x2, -, -, -, ly⟩ := (unhide Z2).all); obtain ⟨d0, d1, d2, d3, d4, g0, g1, g2, g3, g4, lt'⟩ := (unhide B3).all
       clear hb1 e1 e3 e4)
    | (go_at_call 26
       refine (unhide J2 _).mono ?_
       clear J2
       rintro e w1 ⟨rfl, hb1⟩
       obtain ⟨W3, hW3, e1, e3, e4⟩ := new_box w1 4 n' t'
       have hb4 := Below.up hb1 e3
       (try have Z1 := hide ((unhide Z1).up hb4)); (try have Z2 := hide ((unhide Z2).up hb4)); have B2 := hide ((unhide B2).up hb4); have B3 := hide ((unhide B3).up hb4); have HB := hide (Below.up (unhide HB) hb4); clear hb4
       have Z2 := hide e1
       obtain ⟨x0, x1, x2, -, -, -, ly⟩ := (unhide B2).all
       (try obtain ⟨c0, c1, c2, -, -, -, lt⟩ := (unhide Z1).all); (try obtain ⟨x0, x1, x2, -, -, -, ly⟩ := (unhide Z2).all); obtain ⟨d0, d1, d2, d3, d4, g0, g1, g2, g3, g4, lt'⟩ := (unhide B3).all
       clear hb1 e1 e3 e4))
  refine region_Q (C := fun w' => Below W3.heap.size W3 w') (by kernel_rfl) (by kernel_rfl) (Below.refl _ _).drew ?_
  have HSS := hide (fun w' (hw : Below W3.heap.size W3 w') => And.intro ((unhide Z1).up hw).all ((unhide Z2).up hw).all)
  have Q1 := hide (Ret.all (unhide HX))
  have Q2 := hide (Ret.all (unhide HY))
  repeat (first
    | go_big_quiet_skip
    | (go_big_quiet_want
       go_big_quiet_op
       first
         | go_big_quiet_on
         | (apply Exists.intro
            refine ⟨fun w hw => ?_, ?_⟩
            first
              | rfl
              | with_reducible exact (unhide Q1 w).mono fun e w2 h => ⟨h.1, hw.trans (h.2.mono hw.size)⟩
              | with_reducible exact (unhide Q2 w).mono fun e w2 h => ⟨h.1, hw.trans (h.2.mono hw.size)⟩
              | (rw [if_neg (unhide HNS)]; exact ⟨rfl, rfl⟩)
              | (obtain ⟨⟨a1, b1, c1, -, -, -, -⟩, ⟨a2, b2, c2, -, -, -, -⟩⟩ := unhide HSS w hw
                 go_simp
                 first | done | rfl | exact ⟨rfl, rfl⟩)
            go_big_quiet_on)))
  refine wpQuiet_nil ?_
  intro wz hb4
  rw [unhide HSJ]
  (try have Z1 := hide ((unhide Z1).up hb4)); (try have Z2 := hide ((unhide Z2).up hb4)); have B2 := hide ((unhide B2).up hb4); have B3 := hide ((unhide B3).up hb4); have HB := hide (Below.up (unhide HB) hb4); clear hb4
  (try obtain ⟨c0, c1, c2, -, -, -, lt⟩ := (unhide Z1).all); (try obtain ⟨x0, x1, x2, -, -, -, ly⟩ := (unhide Z2).all); obtain ⟨d0, d1, d2, d3, d4, g0, g1, g2, g3, g4, lt'⟩ := (unhide B3).all
  go_wp2_with (first | (go_at_call 49; refine (rString_any sj _).mono ?_; unfold Vc; rintro e w4 ⟨rfl, hb4⟩; (try have Z1 := hide ((unhide Z1).up hb4)); (try have Z2 := hide ((unhide Z2).up hb4)); have B2 := hide ((unhide B2).up hb4); have B3 := hide ((unhide B3).up hb4); have HB := hide (Below.up (unhide HB) hb4); clear hb4; (try obtain ⟨c0, c1, c2, -, -, -, lt⟩ := (unhide Z1).all); (try obtain ⟨x0, x1, x2, -, -, -, ly⟩ := (unhide Z2).all); obtain ⟨d0, d1, d2, d3, d4, g0, g1, g2, g3, g4, lt'⟩ := (unhide B3).all))
  exact ret_o Tryd.results13 rfl (unhide B3) rfl (unhide HB) (by omega) rfl
theorem rbt_add_T2 (n k' n' : Int) (t t' : ByteArray) (sa sb sj : ByteArray) (k0 n0 k1 n1 : Int) (t0 t1 : ByteArray) (J10 : Ret 26 #[.agg (Vc k0 n0 t0)] (.agg (Vc 4 n t))) (J20 : Ret 26 #[.agg (Vc k1 n1 t1)] (.agg (Vc k' n' t'))) (e4 : (k' == 4) = false) (e6 : (k' != 5) = true) (HX0 : Ret 17 #[.agg (Vc 4 n t)] (.string sa)) (HY0 : Ret 17 #[.agg (Vc k' n' t')] (.string sb)) (hsj : sa ++ sb = sj) (hsm : sa.size + sb.size ≤ 9223372036854775807) (gk : (sj.size : Int) ≤ 9223372036854775807) (gj : ¬ (65536 : Int) < (sj.size : Int)) : Ret 13 #[.string ⟨#[43]⟩, .agg (Vc k0 n0 t0), .agg (Vc k1 n1 t1)] (.agg (Oc 4 0 sj ⟨#[]⟩ 0)) := by
  intro W
  have J1 := hide J10
  have J2 := hide J20
  have HX := hide HX0
  have HY := hide HY0
  unfold Vc at J1 J2 HX HY ⊢
  clear J10 J20 HX0 HY0
  have HNS := hide (show ¬ 9223372036854775807 < sa.size + sb.size by omega)
  have HSJ := hide hsj
  clear hsj hsm
  obtain ⟨W2, hW2, b1, b2, b3, hb, hz⟩ := box_box_out W k0 n0 t0 k1 n1 t1
  obtain ⟨c0, c1, c2, -, -, -, lt⟩ := b1.all
  have B2 := hide b2
  have B3 := hide b3
  have HB := hide hb
  clear b1 b2 b3 hb hz
  go_enter Tryd.func13, Tryd.ntmps13
  go_upto_region 14 with (first
    | (go_at_call 26
       refine (unhide J1 _).mono ?_
       clear J1
       rintro e w1 ⟨rfl, hb1⟩
       obtain ⟨W3, hW3, e1, e3, e4⟩ := new_box w1 4 n t
       have hb4 := Below.up hb1 e3
       (try have Z1 := hide ((unhide Z1).up hb4)); (try have Z2 := hide ((unhide Z2).up hb4)); have B2 := hide ((unhide B2).up hb4); have B3 := hide ((unhide B3).up hb4); have HB := hide (Below.up (unhide HB) hb4); clear hb4
       have Z1 := hide e1
       obtain ⟨x0, x1, x2, -, -, -, ly⟩ := (unhide B2).all
       (try obtain ⟨c0, c1, c2, -, -, -, lt⟩ := (unhide Z1).all); (try obtain ⟨x0, x1, x2, -, -, -, ly⟩ := (unhide Z2).all); obtain ⟨d0, d1, d2, d3, d4, g0, g1, g2, g3, g4, lt'⟩ := (unhide B3).all
       clear hb1 e1 e3 e4)
    | (go_at_call 26
       refine (unhide J2 _).mono ?_
       clear J2
       rintro e w1 ⟨rfl, hb1⟩
       obtain ⟨W3, hW3, e1, e3, e4⟩ := new_box w1 k' n' t'
       have hb4 := Below.up hb1 e3
       (try have Z1 := hide ((unhide Z1).up hb4)); (try have Z2 := hide ((unhide Z2).up hb4)); have B2 := hide ((unhide B2).up hb4); have B3 := hide ((unhide B3).up hb4); have HB := hide (Below.up (unhide HB) hb4); clear hb4
       have Z2 := hide e1
       obtain ⟨x0, x1, x2, -, -, -, ly⟩ := (unhide B2).all
       (try obtain ⟨c0, c1, c2, -, -, -, lt⟩ := (unhide Z1).all); (try obtain ⟨x0, x1, x2, -, -, -, ly⟩ := (unhide Z2).all); obtain ⟨d0, d1, d2, d3, d4, g0, g1, g2, g3, g4, lt'⟩ := (unhide B3).all
       clear hb1 e1 e3 e4))
  refine region_Q (C := fun w' => Below W3.heap.size W3 w') (by kernel_rfl) (by kernel_rfl) (Below.refl _ _).drew ?_
  have HSS := hide (fun w' (hw : Below W3.heap.size W3 w') => And.intro ((unhide Z1).up hw).all ((unhide Z2).up hw).all)
  have Q1 := hide (Ret.all (unhide HX))
  have Q2 := hide (Ret.all (unhide HY))
  repeat (first
    | go_big_quiet_skip
    | (go_big_quiet_want
       go_big_quiet_op
       first
         | go_big_quiet_on
         | (apply Exists.intro
            refine ⟨fun w hw => ?_, ?_⟩
            first
              | rfl
              | with_reducible exact (unhide Q1 w).mono fun e w2 h => ⟨h.1, hw.trans (h.2.mono hw.size)⟩
              | with_reducible exact (unhide Q2 w).mono fun e w2 h => ⟨h.1, hw.trans (h.2.mono hw.size)⟩
              | (rw [if_neg (unhide HNS)]; exact ⟨rfl, rfl⟩)
              | (obtain ⟨⟨a1, b1, c1, -, -, -, -⟩, ⟨a2, b2, c2, -, -, -, -⟩⟩ := unhide HSS w hw
                 go_simp
                 first | done | rfl | exact ⟨rfl, rfl⟩)
            go_big_quiet_on)))
  refine wpQuiet_nil ?_
  intro wz hb4
  rw [unhide HSJ]
  (try have Z1 := hide ((unhide Z1).up hb4)); (try have Z2 := hide ((unhide Z2).up hb4)); have B2 := hide ((unhide B2).up hb4); have B3 := hide ((unhide B3).up hb4); have HB := hide (Below.up (unhide HB) hb4); clear hb4
  (try obtain ⟨c0, c1, c2, -, -, -, lt⟩ := (unhide Z1).all); (try obtain ⟨x0, x1, x2, -, -, -, ly⟩ := (unhide Z2).all); obtain ⟨d0, d1, d2, d3, d4, g0, g1, g2, g3, g4, lt'⟩ := (unhide B3).all
  go_wp2_with (first | (go_at_call 49; refine (rString_any sj _).mono ?_; unfold Vc; rintro e w4 ⟨rfl, hb4⟩; (try have Z1 := hide ((unhide Z1).up hb4)); (try have Z2 := hide ((unhide Z2).up hb4)); have B2 := hide ((unhide B2).up hb4); have B3 := hide ((unhide B3).up hb4); have HB := hide (Below.up (unhide HB) hb4); clear hb4; (try obtain ⟨c0, c1, c2, -, -, -, lt⟩ := (unhide Z1).all); (try obtain ⟨x0, x1, x2, -, -, -, ly⟩ := (unhide Z2).all); obtain ⟨d0, d1, d2, d3, d4, g0, g1, g2, g3, g4, lt'⟩ := (unhide B3).all))
  exact ret_o Tryd.results13 rfl (unhide B3) rfl (unhide HB) (by omega) rfl
theorem rbt_add_T3 (k n n' : Int) (t t' : ByteArray) (sa sb sj : ByteArray) (k0 n0 k1 n1 : Int) (t0 t1 : ByteArray) (J10 : Ret 26 #[.agg (Vc k0 n0 t0)] (.agg (Vc k n t))) (J20 : Ret 26 #[.agg (Vc k1 n1 t1)] (.agg (Vc 4 n' t'))) (e1 : (k == 3) = false) (e3 : (k == 4) = false) (e7 : (k != 5) = true) (HX0 : Ret 17 #[.agg (Vc k n t)] (.string sa)) (HY0 : Ret 17 #[.agg (Vc 4 n' t')] (.string sb)) (hsj : sa ++ sb = sj) (hsm : sa.size + sb.size ≤ 9223372036854775807) (gk : (sj.size : Int) ≤ 9223372036854775807) (gj : ¬ (65536 : Int) < (sj.size : Int)) : Ret 13 #[.string ⟨#[43]⟩, .agg (Vc k0 n0 t0), .agg (Vc k1 n1 t1)] (.agg (Oc 4 0 sj ⟨#[]⟩ 0)) := by
  intro W
  have J1 := hide J10
  have J2 := hide J20
  have HX := hide HX0
  have HY := hide HY0
  unfold Vc at J1 J2 HX HY ⊢
  clear J10 J20 HX0 HY0
  have HNS := hide (show ¬ 9223372036854775807 < sa.size + sb.size by omega)
  have HSJ := hide hsj
  clear hsj hsm
  obtain ⟨W2, hW2, b1, b2, b3, hb, hz⟩ := box_box_out W k0 n0 t0 k1 n1 t1
  obtain ⟨c0, c1, c2, -, -, -, lt⟩ := b1.all
  have B2 := hide b2
  have B3 := hide b3
  have HB := hide hb
  clear b1 b2 b3 hb hz
  go_enter Tryd.func13, Tryd.ntmps13
  go_upto_region 14 with (first
    | (go_at_call 26
       refine (unhide J1 _).mono ?_
       clear J1
       rintro e w1 ⟨rfl, hb1⟩
       obtain ⟨W3, hW3, e1, e3, e4⟩ := new_box w1 k n t
       have hb4 := Below.up hb1 e3
       (try have Z1 := hide ((unhide Z1).up hb4)); (try have Z2 := hide ((unhide Z2).up hb4)); have B2 := hide ((unhide B2).up hb4); have B3 := hide ((unhide B3).up hb4); have HB := hide (Below.up (unhide HB) hb4); clear hb4
       have Z1 := hide e1
       obtain ⟨x0, x1, x2, -, -, -, ly⟩ := (unhide B2).all
       (try obtain ⟨c0, c1, c2, -, -, -, lt⟩ := (unhide Z1).all); (try obtain ⟨x0, x1, x2, -, -, -, ly⟩ := (unhide Z2).all); obtain ⟨d0, d1, d2, d3, d4, g0, g1, g2, g3, g4, lt'⟩ := (unhide B3).all
       clear hb1 e1 e3 e4)
    | (go_at_call 26
       refine (unhide J2 _).mono ?_
       clear J2
       rintro e w1 ⟨rfl, hb1⟩
       obtain ⟨W3, hW3, e1, e3, e4⟩ := new_box w1 4 n' t'
       have hb4 := Below.up hb1 e3
       (try have Z1 := hide ((unhide Z1).up hb4)); (try have Z2 := hide ((unhide Z2).up hb4)); have B2 := hide ((unhide B2).up hb4); have B3 := hide ((unhide B3).up hb4); have HB := hide (Below.up (unhide HB) hb4); clear hb4
       have Z2 := hide e1
       obtain ⟨x0, x1, x2, -, -, -, ly⟩ := (unhide B2).all
       (try obtain ⟨c0, c1, c2, -, -, -, lt⟩ := (unhide Z1).all); (try obtain ⟨x0, x1, x2, -, -, -, ly⟩ := (unhide Z2).all); obtain ⟨d0, d1, d2, d3, d4, g0, g1, g2, g3, g4, lt'⟩ := (unhide B3).all
       clear hb1 e1 e3 e4))
  refine region_Q (C := fun w' => Below W3.heap.size W3 w') (by kernel_rfl) (by kernel_rfl) (Below.refl _ _).drew ?_
  have HSS := hide (fun w' (hw : Below W3.heap.size W3 w') => And.intro ((unhide Z1).up hw).all ((unhide Z2).up hw).all)
  have Q1 := hide (Ret.all (unhide HX))
  have Q2 := hide (Ret.all (unhide HY))
  repeat (first
    | go_big_quiet_skip
    | (go_big_quiet_want
       go_big_quiet_op
       first
         | go_big_quiet_on
         | (apply Exists.intro
            refine ⟨fun w hw => ?_, ?_⟩
            first
              | rfl
              | with_reducible exact (unhide Q1 w).mono fun e w2 h => ⟨h.1, hw.trans (h.2.mono hw.size)⟩
              | with_reducible exact (unhide Q2 w).mono fun e w2 h => ⟨h.1, hw.trans (h.2.mono hw.size)⟩
              | (rw [if_neg (unhide HNS)]; exact ⟨rfl, rfl⟩)
              | (obtain ⟨⟨a1, b1, c1, -, -, -, -⟩, ⟨a2, b2, c2, -, -, -, -⟩⟩ := unhide HSS w hw
                 go_simp
                 first | done | rfl | exact ⟨rfl, rfl⟩)
            go_big_quiet_on)))
  refine wpQuiet_nil ?_
  intro wz hb4
  rw [unhide HSJ]
  (try have Z1 := hide ((unhide Z1).up hb4)); (try have Z2 := hide ((unhide Z2).up hb4)); have B2 := hide ((unhide B2).up hb4); have B3 := hide ((unhide B3).up hb4); have HB := hide (Below.up (unhide HB) hb4); clear hb4
  (try obtain ⟨c0, c1, c2, -, -, -, lt⟩ := (unhide Z1).all); (try obtain ⟨x0, x1, x2, -, -, -, ly⟩ := (unhide Z2).all); obtain ⟨d0, d1, d2, d3, d4, g0, g1, g2, g3, g4, lt'⟩ := (unhide B3).all
  go_wp2_with (first | (go_at_call 49; refine (rString_any sj _).mono ?_; unfold Vc; rintro e w4 ⟨rfl, hb4⟩; (try have Z1 := hide ((unhide Z1).up hb4)); (try have Z2 := hide ((unhide Z2).up hb4)); have B2 := hide ((unhide B2).up hb4); have B3 := hide ((unhide B3).up hb4); have HB := hide (Below.up (unhide HB) hb4); clear hb4; (try obtain ⟨c0, c1, c2, -, -, -, lt⟩ := (unhide Z1).all); (try obtain ⟨x0, x1, x2, -, -, -, ly⟩ := (unhide Z2).all); obtain ⟨d0, d1, d2, d3, d4, g0, g1, g2, g3, g4, lt'⟩ := (unhide B3).all))
  exact ret_o Tryd.results13 rfl (unhide B3) rfl (unhide HB) (by omega) rfl
theorem rbt_add_T4 (n n' : Int) (t t' : ByteArray) (sa sb sj : ByteArray) (k0 n0 k1 n1 : Int) (t0 t1 : ByteArray) (J10 : Ret 26 #[.agg (Vc k0 n0 t0)] (.agg (Vc 3 n t))) (J20 : Ret 26 #[.agg (Vc k1 n1 t1)] (.agg (Vc 4 n' t')))  (HX0 : Ret 17 #[.agg (Vc 3 n t)] (.string sa)) (HY0 : Ret 17 #[.agg (Vc 4 n' t')] (.string sb)) (hsj : sa ++ sb = sj) (hsm : sa.size + sb.size ≤ 9223372036854775807) (gk : (sj.size : Int) ≤ 9223372036854775807) (gj : ¬ (65536 : Int) < (sj.size : Int)) : Ret 13 #[.string ⟨#[43]⟩, .agg (Vc k0 n0 t0), .agg (Vc k1 n1 t1)] (.agg (Oc 4 0 sj ⟨#[]⟩ 0)) := by
  intro W
  have J1 := hide J10
  have J2 := hide J20
  have HX := hide HX0
  have HY := hide HY0
  unfold Vc at J1 J2 HX HY ⊢
  clear J10 J20 HX0 HY0
  have HNS := hide (show ¬ 9223372036854775807 < sa.size + sb.size by omega)
  have HSJ := hide hsj
  clear hsj hsm
  obtain ⟨W2, hW2, b1, b2, b3, hb, hz⟩ := box_box_out W k0 n0 t0 k1 n1 t1
  obtain ⟨c0, c1, c2, -, -, -, lt⟩ := b1.all
  have B2 := hide b2
  have B3 := hide b3
  have HB := hide hb
  clear b1 b2 b3 hb hz
  go_enter Tryd.func13, Tryd.ntmps13
  go_upto_region 14 with (first
    | (go_at_call 26
       refine (unhide J1 _).mono ?_
       clear J1
       rintro e w1 ⟨rfl, hb1⟩
       obtain ⟨W3, hW3, e1, e3, e4⟩ := new_box w1 3 n t
       have hb4 := Below.up hb1 e3
       (try have Z1 := hide ((unhide Z1).up hb4)); (try have Z2 := hide ((unhide Z2).up hb4)); have B2 := hide ((unhide B2).up hb4); have B3 := hide ((unhide B3).up hb4); have HB := hide (Below.up (unhide HB) hb4); clear hb4
       have Z1 := hide e1
       obtain ⟨x0, x1, x2, -, -, -, ly⟩ := (unhide B2).all
       (try obtain ⟨c0, c1, c2, -, -, -, lt⟩ := (unhide Z1).all); (try obtain ⟨x0, x1, x2, -, -, -, ly⟩ := (unhide Z2).all); obtain ⟨d0, d1, d2, d3, d4, g0, g1, g2, g3, g4, lt'⟩ := (unhide B3).all
       clear hb1 e1 e3 e4)
    | (go_at_call 26
       refine (unhide J2 _).mono ?_
       clear J2
       rintro e w1 ⟨rfl, hb1⟩
       obtain ⟨W3, hW3, e1, e3, e4⟩ := new_box w1 4 n' t'
       have hb4 := Below.up hb1 e3
       (try have Z1 := hide ((unhide Z1).up hb4)); (try have Z2 := hide ((unhide Z2).up hb4)); have B2 := hide ((unhide B2).up hb4); have B3 := hide ((unhide B3).up hb4); have HB := hide (Below.up (unhide HB) hb4); clear hb4
       have Z2 := hide e1
       obtain ⟨x0, x1, x2, -, -, -, ly⟩ := (unhide B2).all
       (try obtain ⟨c0, c1, c2, -, -, -, lt⟩ := (unhide Z1).all); (try obtain ⟨x0, x1, x2, -, -, -, ly⟩ := (unhide Z2).all); obtain ⟨d0, d1, d2, d3, d4, g0, g1, g2, g3, g4, lt'⟩ := (unhide B3).all
       clear hb1 e1 e3 e4))
  refine region_Q (C := fun w' => Below W3.heap.size W3 w') (by kernel_rfl) (by kernel_rfl) (Below.refl _ _).drew ?_
  have HSS := hide (fun w' (hw : Below W3.heap.size W3 w') => And.intro ((unhide Z1).up hw).all ((unhide Z2).up hw).all)
  have Q1 := hide (Ret.all (unhide HX))
  have Q2 := hide (Ret.all (unhide HY))
  repeat (first
    | go_big_quiet_skip
    | (go_big_quiet_want
       go_big_quiet_op
       first
         | go_big_quiet_on
         | (apply Exists.intro
            refine ⟨fun w hw => ?_, ?_⟩
            first
              | rfl
              | with_reducible exact (unhide Q1 w).mono fun e w2 h => ⟨h.1, hw.trans (h.2.mono hw.size)⟩
              | with_reducible exact (unhide Q2 w).mono fun e w2 h => ⟨h.1, hw.trans (h.2.mono hw.size)⟩
              | (rw [if_neg (unhide HNS)]; exact ⟨rfl, rfl⟩)
              | (obtain ⟨⟨a1, b1, c1, -, -, -, -⟩, ⟨a2, b2, c2, -, -, -, -⟩⟩ := unhide HSS w hw
                 go_simp
                 first | done | rfl | exact ⟨rfl, rfl⟩)
            go_big_quiet_on)))
  refine wpQuiet_nil ?_
  intro wz hb4
  rw [unhide HSJ]
  (try have Z1 := hide ((unhide Z1).up hb4)); (try have Z2 := hide ((unhide Z2).up hb4)); have B2 := hide ((unhide B2).up hb4); have B3 := hide ((unhide B3).up hb4); have HB := hide (Below.up (unhide HB) hb4); clear hb4
  (try obtain ⟨c0, c1, c2, -, -, -, lt⟩ := (unhide Z1).all); (try obtain ⟨x0, x1, x2, -, -, -, ly⟩ := (unhide Z2).all); obtain ⟨d0, d1, d2, d3, d4, g0, g1, g2, g3, g4, lt'⟩ := (unhide B3).all
  go_wp2_with (first | (go_at_call 49; refine (rString_any sj _).mono ?_; unfold Vc; rintro e w4 ⟨rfl, hb4⟩; (try have Z1 := hide ((unhide Z1).up hb4)); (try have Z2 := hide ((unhide Z2).up hb4)); have B2 := hide ((unhide B2).up hb4); have B3 := hide ((unhide B3).up hb4); have HB := hide (Below.up (unhide HB) hb4); clear hb4; (try obtain ⟨c0, c1, c2, -, -, -, lt⟩ := (unhide Z1).all); (try obtain ⟨x0, x1, x2, -, -, -, ly⟩ := (unhide Z2).all); obtain ⟨d0, d1, d2, d3, d4, g0, g1, g2, g3, g4, lt'⟩ := (unhide B3).all))
  exact ret_o Tryd.results13 rfl (unhide B3) rfl (unhide HB) (by omega) rfl
theorem rbt_add_T1_big (n n' : Int) (t t' : ByteArray) (sa sb sj : ByteArray) (k0 n0 k1 n1 : Int) (t0 t1 : ByteArray) (J10 : Ret 26 #[.agg (Vc k0 n0 t0)] (.agg (Vc 4 n t))) (J20 : Ret 26 #[.agg (Vc k1 n1 t1)] (.agg (Vc 4 n' t')))  (HX0 : Ret 17 #[.agg (Vc 4 n t)] (.string sa)) (HY0 : Ret 17 #[.agg (Vc 4 n' t')] (.string sb)) (hsj : sa ++ sb = sj) (hsm : sa.size + sb.size ≤ 9223372036854775807) (gk : (sj.size : Int) ≤ 9223372036854775807) (gj : (65536 : Int) < (sj.size : Int)) : Ret 13 #[.string ⟨#[43]⟩, .agg (Vc k0 n0 t0), .agg (Vc k1 n1 t1)] (.agg (Oc 0 0 ByteArray.empty ⟨#[]⟩ 3)) := by
  intro W
  have J1 := hide J10
  have J2 := hide J20
  have HX := hide HX0
  have HY := hide HY0
  unfold Vc at J1 J2 HX HY ⊢
  clear J10 J20 HX0 HY0
  have HNS := hide (show ¬ 9223372036854775807 < sa.size + sb.size by omega)
  have HSJ := hide hsj
  clear hsj hsm
  obtain ⟨W2, hW2, b1, b2, b3, hb, hz⟩ := box_box_out W k0 n0 t0 k1 n1 t1
  obtain ⟨c0, c1, c2, -, -, -, lt⟩ := b1.all
  have B2 := hide b2
  have B3 := hide b3
  have HB := hide hb
  clear b1 b2 b3 hb hz
  go_enter Tryd.func13, Tryd.ntmps13
  go_upto_region 14 with (first
    | (go_at_call 26
       refine (unhide J1 _).mono ?_
       clear J1
       rintro e w1 ⟨rfl, hb1⟩
       obtain ⟨W3, hW3, e1, e3, e4⟩ := new_box w1 4 n t
       have hb4 := Below.up hb1 e3
       (try have Z1 := hide ((unhide Z1).up hb4)); (try have Z2 := hide ((unhide Z2).up hb4)); have B2 := hide ((unhide B2).up hb4); have B3 := hide ((unhide B3).up hb4); have HB := hide (Below.up (unhide HB) hb4); clear hb4
       have Z1 := hide e1
       obtain ⟨x0, x1, x2, -, -, -, ly⟩ := (unhide B2).all
       (try obtain ⟨c0, c1, c2, -, -, -, lt⟩ := (unhide Z1).all); (try obtain ⟨x0, x1, x2, -, -, -, ly⟩ := (unhide Z2).all); obtain ⟨d0, d1, d2, d3, d4, g0, g1, g2, g3, g4, lt'⟩ := (unhide B3).all
       clear hb1 e1 e3 e4)
    | (go_at_call 26
       refine (unhide J2 _).mono ?_
       clear J2
       rintro e w1 ⟨rfl, hb1⟩
       obtain ⟨W3, hW3, e1, e3, e4⟩ := new_box w1 4 n' t'
       have hb4 := Below.up hb1 e3
       (try have Z1 := hide ((unhide Z1).up hb4)); (try have Z2 := hide ((unhide Z2).up hb4)); have B2 := hide ((unhide B2).up hb4); have B3 := hide ((unhide B3).up hb4); have HB := hide (Below.up (unhide HB) hb4); clear hb4
       have Z2 := hide e1
       obtain ⟨x0, x1, x2, -, -, -, ly⟩ := (unhide B2).all
       (try obtain ⟨c0, c1, c2, -, -, -, lt⟩ := (unhide Z1).all); (try obtain ⟨x0, x1, x2, -, -, -, ly⟩ := (unhide Z2).all); obtain ⟨d0, d1, d2, d3, d4, g0, g1, g2, g3, g4, lt'⟩ := (unhide B3).all
       clear hb1 e1 e3 e4))
  refine region_Q (C := fun w' => Below W3.heap.size W3 w') (by kernel_rfl) (by kernel_rfl) (Below.refl _ _).drew ?_
  have HSS := hide (fun w' (hw : Below W3.heap.size W3 w') => And.intro ((unhide Z1).up hw).all ((unhide Z2).up hw).all)
  have Q1 := hide (Ret.all (unhide HX))
  have Q2 := hide (Ret.all (unhide HY))
  repeat (first
    | go_big_quiet_skip
    | (go_big_quiet_want
       go_big_quiet_op
       first
         | go_big_quiet_on
         | (apply Exists.intro
            refine ⟨fun w hw => ?_, ?_⟩
            first
              | rfl
              | with_reducible exact (unhide Q1 w).mono fun e w2 h => ⟨h.1, hw.trans (h.2.mono hw.size)⟩
              | with_reducible exact (unhide Q2 w).mono fun e w2 h => ⟨h.1, hw.trans (h.2.mono hw.size)⟩
              | (rw [if_neg (unhide HNS)]; exact ⟨rfl, rfl⟩)
              | (obtain ⟨⟨a1, b1, c1, -, -, -, -⟩, ⟨a2, b2, c2, -, -, -, -⟩⟩ := unhide HSS w hw
                 go_simp
                 first | done | rfl | exact ⟨rfl, rfl⟩)
            go_big_quiet_on)))
  refine wpQuiet_nil ?_
  intro wz hb4
  rw [unhide HSJ]
  (try have Z1 := hide ((unhide Z1).up hb4)); (try have Z2 := hide ((unhide Z2).up hb4)); have B2 := hide ((unhide B2).up hb4); have B3 := hide ((unhide B3).up hb4); have HB := hide (Below.up (unhide HB) hb4); clear hb4
  (try obtain ⟨c0, c1, c2, -, -, -, lt⟩ := (unhide Z1).all); (try obtain ⟨x0, x1, x2, -, -, -, ly⟩ := (unhide Z2).all); obtain ⟨d0, d1, d2, d3, d4, g0, g1, g2, g3, g4, lt'⟩ := (unhide B3).all
  go_wp2_with (first | (go_at_call 49; refine (rString_any sj _).mono ?_; unfold Vc; rintro e w4 ⟨rfl, hb4⟩; (try have Z1 := hide ((unhide Z1).up hb4)); (try have Z2 := hide ((unhide Z2).up hb4)); have B2 := hide ((unhide B2).up hb4); have B3 := hide ((unhide B3).up hb4); have HB := hide (Below.up (unhide HB) hb4); clear hb4; (try obtain ⟨c0, c1, c2, -, -, -, lt⟩ := (unhide Z1).all); (try obtain ⟨x0, x1, x2, -, -, -, ly⟩ := (unhide Z2).all); obtain ⟨d0, d1, d2, d3, d4, g0, g1, g2, g3, g4, lt'⟩ := (unhide B3).all))
  exact ret_o Tryd.results13 rfl (unhide B3) rfl (unhide HB) (by omega) rfl
theorem rbt_add_T2_big (n k' n' : Int) (t t' : ByteArray) (sa sb sj : ByteArray) (k0 n0 k1 n1 : Int) (t0 t1 : ByteArray) (J10 : Ret 26 #[.agg (Vc k0 n0 t0)] (.agg (Vc 4 n t))) (J20 : Ret 26 #[.agg (Vc k1 n1 t1)] (.agg (Vc k' n' t'))) (e4 : (k' == 4) = false) (e6 : (k' != 5) = true) (HX0 : Ret 17 #[.agg (Vc 4 n t)] (.string sa)) (HY0 : Ret 17 #[.agg (Vc k' n' t')] (.string sb)) (hsj : sa ++ sb = sj) (hsm : sa.size + sb.size ≤ 9223372036854775807) (gk : (sj.size : Int) ≤ 9223372036854775807) (gj : (65536 : Int) < (sj.size : Int)) : Ret 13 #[.string ⟨#[43]⟩, .agg (Vc k0 n0 t0), .agg (Vc k1 n1 t1)] (.agg (Oc 0 0 ByteArray.empty ⟨#[]⟩ 3)) := by
  intro W
  have J1 := hide J10
  have J2 := hide J20
  have HX := hide HX0
  have HY := hide HY0
  unfold Vc at J1 J2 HX HY ⊢
  clear J10 J20 HX0 HY0
  have HNS := hide (show ¬ 9223372036854775807 < sa.size + sb.size by omega)
  have HSJ := hide hsj
  clear hsj hsm
  obtain ⟨W2, hW2, b1, b2, b3, hb, hz⟩ := box_box_out W k0 n0 t0 k1 n1 t1
  obtain ⟨c0, c1, c2, -, -, -, lt⟩ := b1.all
  have B2 := hide b2
  have B3 := hide b3
  have HB := hide hb
  clear b1 b2 b3 hb hz
  go_enter Tryd.func13, Tryd.ntmps13
  go_upto_region 14 with (first
    | (go_at_call 26
       refine (unhide J1 _).mono ?_
       clear J1
       rintro e w1 ⟨rfl, hb1⟩
       obtain ⟨W3, hW3, e1, e3, e4⟩ := new_box w1 4 n t
       have hb4 := Below.up hb1 e3
       (try have Z1 := hide ((unhide Z1).up hb4)); (try have Z2 := hide ((unhide Z2).up hb4)); have B2 := hide ((unhide B2).up hb4); have B3 := hide ((unhide B3).up hb4); have HB := hide (Below.up (unhide HB) hb4); clear hb4
       have Z1 := hide e1
       obtain ⟨x0, x1, x2, -, -, -, ly⟩ := (unhide B2).all
       (try obtain ⟨c0, c1, c2, -, -, -, lt⟩ := (unhide Z1).all); (try obtain ⟨x0, x1, x2, -, -, -, ly⟩ := (unhide Z2).all); obtain ⟨d0, d1, d2, d3, d4, g0, g1, g2, g3, g4, lt'⟩ := (unhide B3).all
       clear hb1 e1 e3 e4)
    | (go_at_call 26
       refine (unhide J2 _).mono ?_
       clear J2
       rintro e w1 ⟨rfl, hb1⟩
       obtain ⟨W3, hW3, e1, e3, e4⟩ := new_box w1 k' n' t'
       have hb4 := Below.up hb1 e3
       (try have Z1 := hide ((unhide Z1).up hb4)); (try have Z2 := hide ((unhide Z2).up hb4)); have B2 := hide ((unhide B2).up hb4); have B3 := hide ((unhide B3).up hb4); have HB := hide (Below.up (unhide HB) hb4); clear hb4
       have Z2 := hide e1
       obtain ⟨x0, x1, x2, -, -, -, ly⟩ := (unhide B2).all
       (try obtain ⟨c0, c1, c2, -, -, -, lt⟩ := (unhide Z1).all); (try obtain ⟨x0, x1, x2, -, -, -, ly⟩ := (unhide Z2).all); obtain ⟨d0, d1, d2, d3, d4, g0, g1, g2, g3, g4, lt'⟩ := (unhide B3).all
       clear hb1 e1 e3 e4))
  refine region_Q (C := fun w' => Below W3.heap.size W3 w') (by kernel_rfl) (by kernel_rfl) (Below.refl _ _).drew ?_
  have HSS := hide (fun w' (hw : Below W3.heap.size W3 w') => And.intro ((unhide Z1).up hw).all ((unhide Z2).up hw).all)
  have Q1 := hide (Ret.all (unhide HX))
  have Q2 := hide (Ret.all (unhide HY))
  repeat (first
    | go_big_quiet_skip
    | (go_big_quiet_want
       go_big_quiet_op
       first
         | go_big_quiet_on
         | (apply Exists.intro
            refine ⟨fun w hw => ?_, ?_⟩
            first
              | rfl
              | with_reducible exact (unhide Q1 w).mono fun e w2 h => ⟨h.1, hw.trans (h.2.mono hw.size)⟩
              | with_reducible exact (unhide Q2 w).mono fun e w2 h => ⟨h.1, hw.trans (h.2.mono hw.size)⟩
              | (rw [if_neg (unhide HNS)]; exact ⟨rfl, rfl⟩)
              | (obtain ⟨⟨a1, b1, c1, -, -, -, -⟩, ⟨a2, b2, c2, -, -, -, -⟩⟩ := unhide HSS w hw
                 go_simp
                 first | done | rfl | exact ⟨rfl, rfl⟩)
            go_big_quiet_on)))
  refine wpQuiet_nil ?_
  intro wz hb4
  rw [unhide HSJ]
  (try have Z1 := hide ((unhide Z1).up hb4)); (try have Z2 := hide ((unhide Z2).up hb4)); have B2 := hide ((unhide B2).up hb4); have B3 := hide ((unhide B3).up hb4); have HB := hide (Below.up (unhide HB) hb4); clear hb4
  (try obtain ⟨c0, c1, c2, -, -, -, lt⟩ := (unhide Z1).all); (try obtain ⟨x0, x1, x2, -, -, -, ly⟩ := (unhide Z2).all); obtain ⟨d0, d1, d2, d3, d4, g0, g1, g2, g3, g4, lt'⟩ := (unhide B3).all
  go_wp2_with (first | (go_at_call 49; refine (rString_any sj _).mono ?_; unfold Vc; rintro e w4 ⟨rfl, hb4⟩; (try have Z1 := hide ((unhide Z1).up hb4)); (try have Z2 := hide ((unhide Z2).up hb4)); have B2 := hide ((unhide B2).up hb4); have B3 := hide ((unhide B3).up hb4); have HB := hide (Below.up (unhide HB) hb4); clear hb4; (try obtain ⟨c0, c1, c2, -, -, -, lt⟩ := (unhide Z1).all); (try obtain ⟨x0, x1, x2, -, -, -, ly⟩ := (unhide Z2).all); obtain ⟨d0, d1, d2, d3, d4, g0, g1, g2, g3, g4, lt'⟩ := (unhide B3).all))
  exact ret_o Tryd.results13 rfl (unhide B3) rfl (unhide HB) (by omega) rfl
theorem rbt_add_T3_big (k n n' : Int) (t t' : ByteArray) (sa sb sj : ByteArray) (k0 n0 k1 n1 : Int) (t0 t1 : ByteArray) (J10 : Ret 26 #[.agg (Vc k0 n0 t0)] (.agg (Vc k n t))) (J20 : Ret 26 #[.agg (Vc k1 n1 t1)] (.agg (Vc 4 n' t'))) (e1 : (k == 3) = false) (e3 : (k == 4) = false) (e7 : (k != 5) = true) (HX0 : Ret 17 #[.agg (Vc k n t)] (.string sa)) (HY0 : Ret 17 #[.agg (Vc 4 n' t')] (.string sb)) (hsj : sa ++ sb = sj) (hsm : sa.size + sb.size ≤ 9223372036854775807) (gk : (sj.size : Int) ≤ 9223372036854775807) (gj : (65536 : Int) < (sj.size : Int)) : Ret 13 #[.string ⟨#[43]⟩, .agg (Vc k0 n0 t0), .agg (Vc k1 n1 t1)] (.agg (Oc 0 0 ByteArray.empty ⟨#[]⟩ 3)) := by
  intro W
  have J1 := hide J10
  have J2 := hide J20
  have HX := hide HX0
  have HY := hide HY0
  unfold Vc at J1 J2 HX HY ⊢
  clear J10 J20 HX0 HY0
  have HNS := hide (show ¬ 9223372036854775807 < sa.size + sb.size by omega)
  have HSJ := hide hsj
  clear hsj hsm
  obtain ⟨W2, hW2, b1, b2, b3, hb, hz⟩ := box_box_out W k0 n0 t0 k1 n1 t1
  obtain ⟨c0, c1, c2, -, -, -, lt⟩ := b1.all
  have B2 := hide b2
  have B3 := hide b3
  have HB := hide hb
  clear b1 b2 b3 hb hz
  go_enter Tryd.func13, Tryd.ntmps13
  go_upto_region 14 with (first
    | (go_at_call 26
       refine (unhide J1 _).mono ?_
       clear J1
       rintro e w1 ⟨rfl, hb1⟩
       obtain ⟨W3, hW3, e1, e3, e4⟩ := new_box w1 k n t
       have hb4 := Below.up hb1 e3
       (try have Z1 := hide ((unhide Z1).up hb4)); (try have Z2 := hide ((unhide Z2).up hb4)); have B2 := hide ((unhide B2).up hb4); have B3 := hide ((unhide B3).up hb4); have HB := hide (Below.up (unhide HB) hb4); clear hb4
       have Z1 := hide e1
       obtain ⟨x0, x1, x2, -, -, -, ly⟩ := (unhide B2).all
       (try obtain ⟨c0, c1, c2, -, -, -, lt⟩ := (unhide Z1).all); (try obtain ⟨x0, x1, x2, -, -, -, ly⟩ := (unhide Z2).all); obtain ⟨d0, d1, d2, d3, d4, g0, g1, g2, g3, g4, lt'⟩ := (unhide B3).all
       clear hb1 e1 e3 e4)
    | (go_at_call 26
       refine (unhide J2 _).mono ?_
       clear J2
       rintro e w1 ⟨rfl, hb1⟩
       obtain ⟨W3, hW3, e1, e3, e4⟩ := new_box w1 4 n' t'
       have hb4 := Below.up hb1 e3
       (try have Z1 := hide ((unhide Z1).up hb4)); (try have Z2 := hide ((unhide Z2).up hb4)); have B2 := hide ((unhide B2).up hb4); have B3 := hide ((unhide B3).up hb4); have HB := hide (Below.up (unhide HB) hb4); clear hb4
       have Z2 := hide e1
       obtain ⟨x0, x1, x2, -, -, -, ly⟩ := (unhide B2).all
       (try obtain ⟨c0, c1, c2, -, -, -, lt⟩ := (unhide Z1).all); (try obtain ⟨x0, x1, x2, -, -, -, ly⟩ := (unhide Z2).all); obtain ⟨d0, d1, d2, d3, d4, g0, g1, g2, g3, g4, lt'⟩ := (unhide B3).all
       clear hb1 e1 e3 e4))
  refine region_Q (C := fun w' => Below W3.heap.size W3 w') (by kernel_rfl) (by kernel_rfl) (Below.refl _ _).drew ?_
  have HSS := hide (fun w' (hw : Below W3.heap.size W3 w') => And.intro ((unhide Z1).up hw).all ((unhide Z2).up hw).all)
  have Q1 := hide (Ret.all (unhide HX))
  have Q2 := hide (Ret.all (unhide HY))
  repeat (first
    | go_big_quiet_skip
    | (go_big_quiet_want
       go_big_quiet_op
       first
         | go_big_quiet_on
         | (apply Exists.intro
            refine ⟨fun w hw => ?_, ?_⟩
            first
              | rfl
              | with_reducible exact (unhide Q1 w).mono fun e w2 h => ⟨h.1, hw.trans (h.2.mono hw.size)⟩
              | with_reducible exact (unhide Q2 w).mono fun e w2 h => ⟨h.1, hw.trans (h.2.mono hw.size)⟩
              | (rw [if_neg (unhide HNS)]; exact ⟨rfl, rfl⟩)
              | (obtain ⟨⟨a1, b1, c1, -, -, -, -⟩, ⟨a2, b2, c2, -, -, -, -⟩⟩ := unhide HSS w hw
                 go_simp
                 first | done | rfl | exact ⟨rfl, rfl⟩)
            go_big_quiet_on)))
  refine wpQuiet_nil ?_
  intro wz hb4
  rw [unhide HSJ]
  (try have Z1 := hide ((unhide Z1).up hb4)); (try have Z2 := hide ((unhide Z2).up hb4)); have B2 := hide ((unhide B2).up hb4); have B3 := hide ((unhide B3).up hb4); have HB := hide (Below.up (unhide HB) hb4); clear hb4
  (try obtain ⟨c0, c1, c2, -, -, -, lt⟩ := (unhide Z1).all); (try obtain ⟨x0, x1, x2, -, -, -, ly⟩ := (unhide Z2).all); obtain ⟨d0, d1, d2, d3, d4, g0, g1, g2, g3, g4, lt'⟩ := (unhide B3).all
  go_wp2_with (first | (go_at_call 49; refine (rString_any sj _).mono ?_; unfold Vc; rintro e w4 ⟨rfl, hb4⟩; (try have Z1 := hide ((unhide Z1).up hb4)); (try have Z2 := hide ((unhide Z2).up hb4)); have B2 := hide ((unhide B2).up hb4); have B3 := hide ((unhide B3).up hb4); have HB := hide (Below.up (unhide HB) hb4); clear hb4; (try obtain ⟨c0, c1, c2, -, -, -, lt⟩ := (unhide Z1).all); (try obtain ⟨x0, x1, x2, -, -, -, ly⟩ := (unhide Z2).all); obtain ⟨d0, d1, d2, d3, d4, g0, g1, g2, g3, g4, lt'⟩ := (unhide B3).all))
  exact ret_o Tryd.results13 rfl (unhide B3) rfl (unhide HB) (by omega) rfl
theorem rbt_add_T4_big (n n' : Int) (t t' : ByteArray) (sa sb sj : ByteArray) (k0 n0 k1 n1 : Int) (t0 t1 : ByteArray) (J10 : Ret 26 #[.agg (Vc k0 n0 t0)] (.agg (Vc 3 n t))) (J20 : Ret 26 #[.agg (Vc k1 n1 t1)] (.agg (Vc 4 n' t')))  (HX0 : Ret 17 #[.agg (Vc 3 n t)] (.string sa)) (HY0 : Ret 17 #[.agg (Vc 4 n' t')] (.string sb)) (hsj : sa ++ sb = sj) (hsm : sa.size + sb.size ≤ 9223372036854775807) (gk : (sj.size : Int) ≤ 9223372036854775807) (gj : (65536 : Int) < (sj.size : Int)) : Ret 13 #[.string ⟨#[43]⟩, .agg (Vc k0 n0 t0), .agg (Vc k1 n1 t1)] (.agg (Oc 0 0 ByteArray.empty ⟨#[]⟩ 3)) := by
  intro W
  have J1 := hide J10
  have J2 := hide J20
  have HX := hide HX0
  have HY := hide HY0
  unfold Vc at J1 J2 HX HY ⊢
  clear J10 J20 HX0 HY0
  have HNS := hide (show ¬ 9223372036854775807 < sa.size + sb.size by omega)
  have HSJ := hide hsj
  clear hsj hsm
  obtain ⟨W2, hW2, b1, b2, b3, hb, hz⟩ := box_box_out W k0 n0 t0 k1 n1 t1
  obtain ⟨c0, c1, c2, -, -, -, lt⟩ := b1.all
  have B2 := hide b2
  have B3 := hide b3
  have HB := hide hb
  clear b1 b2 b3 hb hz
  go_enter Tryd.func13, Tryd.ntmps13
  go_upto_region 14 with (first
    | (go_at_call 26
       refine (unhide J1 _).mono ?_
       clear J1
       rintro e w1 ⟨rfl, hb1⟩
       obtain ⟨W3, hW3, e1, e3, e4⟩ := new_box w1 3 n t
       have hb4 := Below.up hb1 e3
       (try have Z1 := hide ((unhide Z1).up hb4)); (try have Z2 := hide ((unhide Z2).up hb4)); have B2 := hide ((unhide B2).up hb4); have B3 := hide ((unhide B3).up hb4); have HB := hide (Below.up (unhide HB) hb4); clear hb4
       have Z1 := hide e1
       obtain ⟨x0, x1, x2, -, -, -, ly⟩ := (unhide B2).all
       (try obtain ⟨c0, c1, c2, -, -, -, lt⟩ := (unhide Z1).all); (try obtain ⟨x0, x1, x2, -, -, -, ly⟩ := (unhide Z2).all); obtain ⟨d0, d1, d2, d3, d4, g0, g1, g2, g3, g4, lt'⟩ := (unhide B3).all
       clear hb1 e1 e3 e4)
    | (go_at_call 26
       refine (unhide J2 _).mono ?_
       clear J2
       rintro e w1 ⟨rfl, hb1⟩
       obtain ⟨W3, hW3, e1, e3, e4⟩ := new_box w1 4 n' t'
       have hb4 := Below.up hb1 e3
       (try have Z1 := hide ((unhide Z1).up hb4)); (try have Z2 := hide ((unhide Z2).up hb4)); have B2 := hide ((unhide B2).up hb4); have B3 := hide ((unhide B3).up hb4); have HB := hide (Below.up (unhide HB) hb4); clear hb4
       have Z2 := hide e1
       obtain ⟨x0, x1, x2, -, -, -, ly⟩ := (unhide B2).all
       (try obtain ⟨c0, c1, c2, -, -, -, lt⟩ := (unhide Z1).all); (try obtain ⟨x0, x1, x2, -, -, -, ly⟩ := (unhide Z2).all); obtain ⟨d0, d1, d2, d3, d4, g0, g1, g2, g3, g4, lt'⟩ := (unhide B3).all
       clear hb1 e1 e3 e4))
  refine region_Q (C := fun w' => Below W3.heap.size W3 w') (by kernel_rfl) (by kernel_rfl) (Below.refl _ _).drew ?_
  have HSS := hide (fun w' (hw : Below W3.heap.size W3 w') => And.intro ((unhide Z1).up hw).all ((unhide Z2).up hw).all)
  have Q1 := hide (Ret.all (unhide HX))
  have Q2 := hide (Ret.all (unhide HY))
  repeat (first
    | go_big_quiet_skip
    | (go_big_quiet_want
       go_big_quiet_op
       first
         | go_big_quiet_on
         | (apply Exists.intro
            refine ⟨fun w hw => ?_, ?_⟩
            first
              | rfl
              | with_reducible exact (unhide Q1 w).mono fun e w2 h => ⟨h.1, hw.trans (h.2.mono hw.size)⟩
              | with_reducible exact (unhide Q2 w).mono fun e w2 h => ⟨h.1, hw.trans (h.2.mono hw.size)⟩
              | (rw [if_neg (unhide HNS)]; exact ⟨rfl, rfl⟩)
              | (obtain ⟨⟨a1, b1, c1, -, -, -, -⟩, ⟨a2, b2, c2, -, -, -, -⟩⟩ := unhide HSS w hw
                 go_simp
                 first | done | rfl | exact ⟨rfl, rfl⟩)
            go_big_quiet_on)))
  refine wpQuiet_nil ?_
  intro wz hb4
  rw [unhide HSJ]
  (try have Z1 := hide ((unhide Z1).up hb4)); (try have Z2 := hide ((unhide Z2).up hb4)); have B2 := hide ((unhide B2).up hb4); have B3 := hide ((unhide B3).up hb4); have HB := hide (Below.up (unhide HB) hb4); clear hb4
  (try obtain ⟨c0, c1, c2, -, -, -, lt⟩ := (unhide Z1).all); (try obtain ⟨x0, x1, x2, -, -, -, ly⟩ := (unhide Z2).all); obtain ⟨d0, d1, d2, d3, d4, g0, g1, g2, g3, g4, lt'⟩ := (unhide B3).all
  go_wp2_with (first | (go_at_call 49; refine (rString_any sj _).mono ?_; unfold Vc; rintro e w4 ⟨rfl, hb4⟩; (try have Z1 := hide ((unhide Z1).up hb4)); (try have Z2 := hide ((unhide Z2).up hb4)); have B2 := hide ((unhide B2).up hb4); have B3 := hide ((unhide B3).up hb4); have HB := hide (Below.up (unhide HB) hb4); clear hb4; (try obtain ⟨c0, c1, c2, -, -, -, lt⟩ := (unhide Z1).all); (try obtain ⟨x0, x1, x2, -, -, -, ly⟩ := (unhide Z2).all); obtain ⟨d0, d1, d2, d3, d4, g0, g1, g2, g3, g4, lt'⟩ := (unhide B3).all))
  exact ret_o Tryd.results13 rfl (unhide B3) rfl (unhide HB) (by omega) rfl
end Go.Proofs.YthjlhdldomfikaaDoor

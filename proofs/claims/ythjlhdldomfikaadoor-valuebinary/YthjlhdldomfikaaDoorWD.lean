/- Merged: VUC3, VUD. -/
import Derived.BigQuiet
import Derived.Deep.QuietTactic
import Derived.Test.YthjlhdldomfikaaDoorVQ
import Derived.Test.YthjlhdldomfikaaDoorWB
/- The reference's Binary where a sign of numbers stands at others. -/
namespace Go.Proofs.YthjlhdldomfikaaDoor
set_option linter.unusedSimpArgs false
set_option linter.unusedVariables false
set_option maxRecDepth 100000
set_option maxHeartbeats 4000000
open Go.RowKit Go.Shelf

theorem rbt_shl_A (k n k' n' : Int) (t t' : ByteArray) (k0 n0 k1 n1 : Int) (t0 t1 : ByteArray) (J10 : Ret 26 #[.agg (Vc k0 n0 t0)] (.agg (Vc k n t))) (J20 : Ret 26 #[.agg (Vc k1 n1 t1)] (.agg (Vc k' n' t'))) (e1 : (k == 3) = false) (e3 : (k == 4) = false) : Ret 13 #[.string ⟨#[60, 60]⟩, .agg (Vc k0 n0 t0), .agg (Vc k1 n1 t1)] (.agg (Oc 0 0 ByteArray.empty numT 1)) := by
  intro W
  have J1 := hide J10
  have J2 := hide J20
  unfold Vc at J1 J2 ⊢
  clear J10 J20
  obtain ⟨W2, hW2, b1, b2, b3, hb, hz⟩ := box_box_out W k0 n0 t0 k1 n1 t1
  obtain ⟨c0, c1, c2, -, -, -, lt⟩ := b1.all
  have B2 := hide b2
  have B3 := hide b3
  have HB := hide hb
  clear b1 b2 b3 hb hz
  go_enter Tryd.func13, Tryd.ntmps13
  go_wp2_with (first
    | (go_at_call 26
       refine (unhide J1 _).mono ?_
       clear J1
       rintro e w1 ⟨rfl, hb1⟩
       obtain ⟨W3, hW3, e1, e3, e4⟩ := new_box w1 k n t
       have hb4 := Below.up hb1 e3
       (try have Z1 := hide ((unhide Z1).up hb4)); (try have Z2 := hide ((unhide Z2).up hb4)); have B2 := hide ((unhide B2).up hb4); have B3 := hide ((unhide B3).up hb4); have HB := hide (Below.up (unhide HB) hb4); clear hb4
       have Z1 := hide e1
       obtain ⟨x0, x1, x2, -, -, -, ly⟩ := (unhide B2).all
       (try obtain ⟨c0, c1, c2, -, -, -, lt⟩ := (unhide Z1).all); (try obtain ⟨x0, x1, x2, -, -, -, ly⟩ := (unhide Z2).all); obtain ⟨d0, d1, d2, d3, d4, g0, g1, g2, g3, g4, lt'⟩ := (unhide B3).all
       clear hb1 e1 e3 e4)
    | (go_at_call 26
       refine (unhide J2 _).mono ?_
       clear J2
       rintro e w1 ⟨rfl, hb1⟩
       obtain ⟨W3, hW3, e1, e3, e4⟩ := new_box w1 k' n' t'
       have hb4 := Below.up hb1 e3
       (try have Z1 := hide ((unhide Z1).up hb4)); (try have Z2 := hide ((unhide Z2).up hb4)); have B2 := hide ((unhide B2).up hb4); have B3 := hide ((unhide B3).up hb4); have HB := hide (Below.up (unhide HB) hb4); clear hb4
       have Z2 := hide e1
       obtain ⟨x0, x1, x2, -, -, -, ly⟩ := (unhide B2).all
       (try obtain ⟨c0, c1, c2, -, -, -, lt⟩ := (unhide Z1).all); (try obtain ⟨x0, x1, x2, -, -, -, ly⟩ := (unhide Z2).all); obtain ⟨d0, d1, d2, d3, d4, g0, g1, g2, g3, g4, lt'⟩ := (unhide B3).all
       clear hb1 e1 e3 e4)
    | (go_at_call 28; refine (rThrow_any numT _).mono ?_; rintro e w4 ⟨rfl, hb4⟩; unfold Oc; (try have Z1 := hide ((unhide Z1).up hb4)); (try have Z2 := hide ((unhide Z2).up hb4)); have B2 := hide ((unhide B2).up hb4); have B3 := hide ((unhide B3).up hb4); have HB := hide (Below.up (unhide HB) hb4); clear hb4; (try obtain ⟨c0, c1, c2, -, -, -, lt⟩ := (unhide Z1).all); (try obtain ⟨x0, x1, x2, -, -, -, ly⟩ := (unhide Z2).all); obtain ⟨d0, d1, d2, d3, d4, g0, g1, g2, g3, g4, lt'⟩ := (unhide B3).all))
  exact ret_o Tryd.results13 rfl (unhide B3) rfl (unhide HB) (by omega) rfl
theorem rbt_shl_B (n k' n' : Int) (t t' : ByteArray) (k0 n0 k1 n1 : Int) (t0 t1 : ByteArray) (J10 : Ret 26 #[.agg (Vc k0 n0 t0)] (.agg (Vc 3 n t))) (J20 : Ret 26 #[.agg (Vc k1 n1 t1)] (.agg (Vc k' n' t'))) (e2 : (k' == 3) = false) : Ret 13 #[.string ⟨#[60, 60]⟩, .agg (Vc k0 n0 t0), .agg (Vc k1 n1 t1)] (.agg (Oc 0 0 ByteArray.empty numT 1)) := by
  intro W
  have J1 := hide J10
  have J2 := hide J20
  unfold Vc at J1 J2 ⊢
  clear J10 J20
  obtain ⟨W2, hW2, b1, b2, b3, hb, hz⟩ := box_box_out W k0 n0 t0 k1 n1 t1
  obtain ⟨c0, c1, c2, -, -, -, lt⟩ := b1.all
  have B2 := hide b2
  have B3 := hide b3
  have HB := hide hb
  clear b1 b2 b3 hb hz
  go_enter Tryd.func13, Tryd.ntmps13
  go_wp2_with (first
    | (go_at_call 26
       refine (unhide J1 _).mono ?_
       clear J1
       rintro e w1 ⟨rfl, hb1⟩
       obtain ⟨W3, hW3, e1, e3, e4⟩ := new_box w1 3 n t
       have hb4 := Below.up hb1 e3
       (try have Z1 := hide ((unhide Z1).up hb4)); (try have Z2 := hide ((unhide Z2).up hb4)); have B2 := hide ((unhide B2).up hb4); have B3 := hide ((unhide B3).up hb4); have HB := hide (Below.up (unhide HB) hb4); clear hb4
       have Z1 := hide e1
       obtain ⟨x0, x1, x2, -, -, -, ly⟩ := (unhide B2).all
       (try obtain ⟨c0, c1, c2, -, -, -, lt⟩ := (unhide Z1).all); (try obtain ⟨x0, x1, x2, -, -, -, ly⟩ := (unhide Z2).all); obtain ⟨d0, d1, d2, d3, d4, g0, g1, g2, g3, g4, lt'⟩ := (unhide B3).all
       clear hb1 e1 e3 e4)
    | (go_at_call 26
       refine (unhide J2 _).mono ?_
       clear J2
       rintro e w1 ⟨rfl, hb1⟩
       obtain ⟨W3, hW3, e1, e3, e4⟩ := new_box w1 k' n' t'
       have hb4 := Below.up hb1 e3
       (try have Z1 := hide ((unhide Z1).up hb4)); (try have Z2 := hide ((unhide Z2).up hb4)); have B2 := hide ((unhide B2).up hb4); have B3 := hide ((unhide B3).up hb4); have HB := hide (Below.up (unhide HB) hb4); clear hb4
       have Z2 := hide e1
       obtain ⟨x0, x1, x2, -, -, -, ly⟩ := (unhide B2).all
       (try obtain ⟨c0, c1, c2, -, -, -, lt⟩ := (unhide Z1).all); (try obtain ⟨x0, x1, x2, -, -, -, ly⟩ := (unhide Z2).all); obtain ⟨d0, d1, d2, d3, d4, g0, g1, g2, g3, g4, lt'⟩ := (unhide B3).all
       clear hb1 e1 e3 e4)
    | (go_at_call 28; refine (rThrow_any numT _).mono ?_; rintro e w4 ⟨rfl, hb4⟩; unfold Oc; (try have Z1 := hide ((unhide Z1).up hb4)); (try have Z2 := hide ((unhide Z2).up hb4)); have B2 := hide ((unhide B2).up hb4); have B3 := hide ((unhide B3).up hb4); have HB := hide (Below.up (unhide HB) hb4); clear hb4; (try obtain ⟨c0, c1, c2, -, -, -, lt⟩ := (unhide Z1).all); (try obtain ⟨x0, x1, x2, -, -, -, ly⟩ := (unhide Z2).all); obtain ⟨d0, d1, d2, d3, d4, g0, g1, g2, g3, g4, lt'⟩ := (unhide B3).all))
  exact ret_o Tryd.results13 rfl (unhide B3) rfl (unhide HB) (by omega) rfl
theorem rbt_shl_C (n n' : Int) (t t' : ByteArray) (k0 n0 k1 n1 : Int) (t0 t1 : ByteArray) (J10 : Ret 26 #[.agg (Vc k0 n0 t0)] (.agg (Vc 4 n t))) (J20 : Ret 26 #[.agg (Vc k1 n1 t1)] (.agg (Vc 4 n' t')))  : Ret 13 #[.string ⟨#[60, 60]⟩, .agg (Vc k0 n0 t0), .agg (Vc k1 n1 t1)] (.agg (Oc 0 0 ByteArray.empty numT 1)) := by
  intro W
  have J1 := hide J10
  have J2 := hide J20
  unfold Vc at J1 J2 ⊢
  clear J10 J20
  obtain ⟨W2, hW2, b1, b2, b3, hb, hz⟩ := box_box_out W k0 n0 t0 k1 n1 t1
  obtain ⟨c0, c1, c2, -, -, -, lt⟩ := b1.all
  have B2 := hide b2
  have B3 := hide b3
  have HB := hide hb
  clear b1 b2 b3 hb hz
  go_enter Tryd.func13, Tryd.ntmps13
  go_wp2_with (first
    | (go_at_call 26
       refine (unhide J1 _).mono ?_
       clear J1
       rintro e w1 ⟨rfl, hb1⟩
       obtain ⟨W3, hW3, e1, e3, e4⟩ := new_box w1 4 n t
       have hb4 := Below.up hb1 e3
       (try have Z1 := hide ((unhide Z1).up hb4)); (try have Z2 := hide ((unhide Z2).up hb4)); have B2 := hide ((unhide B2).up hb4); have B3 := hide ((unhide B3).up hb4); have HB := hide (Below.up (unhide HB) hb4); clear hb4
       have Z1 := hide e1
       obtain ⟨x0, x1, x2, -, -, -, ly⟩ := (unhide B2).all
       (try obtain ⟨c0, c1, c2, -, -, -, lt⟩ := (unhide Z1).all); (try obtain ⟨x0, x1, x2, -, -, -, ly⟩ := (unhide Z2).all); obtain ⟨d0, d1, d2, d3, d4, g0, g1, g2, g3, g4, lt'⟩ := (unhide B3).all
       clear hb1 e1 e3 e4)
    | (go_at_call 26
       refine (unhide J2 _).mono ?_
       clear J2
       rintro e w1 ⟨rfl, hb1⟩
       obtain ⟨W3, hW3, e1, e3, e4⟩ := new_box w1 4 n' t'
       have hb4 := Below.up hb1 e3
       (try have Z1 := hide ((unhide Z1).up hb4)); (try have Z2 := hide ((unhide Z2).up hb4)); have B2 := hide ((unhide B2).up hb4); have B3 := hide ((unhide B3).up hb4); have HB := hide (Below.up (unhide HB) hb4); clear hb4
       have Z2 := hide e1
       obtain ⟨x0, x1, x2, -, -, -, ly⟩ := (unhide B2).all
       (try obtain ⟨c0, c1, c2, -, -, -, lt⟩ := (unhide Z1).all); (try obtain ⟨x0, x1, x2, -, -, -, ly⟩ := (unhide Z2).all); obtain ⟨d0, d1, d2, d3, d4, g0, g1, g2, g3, g4, lt'⟩ := (unhide B3).all
       clear hb1 e1 e3 e4)
    | (go_at_call 28; refine (rThrow_any numT _).mono ?_; rintro e w4 ⟨rfl, hb4⟩; unfold Oc; (try have Z1 := hide ((unhide Z1).up hb4)); (try have Z2 := hide ((unhide Z2).up hb4)); have B2 := hide ((unhide B2).up hb4); have B3 := hide ((unhide B3).up hb4); have HB := hide (Below.up (unhide HB) hb4); clear hb4; (try obtain ⟨c0, c1, c2, -, -, -, lt⟩ := (unhide Z1).all); (try obtain ⟨x0, x1, x2, -, -, -, ly⟩ := (unhide Z2).all); obtain ⟨d0, d1, d2, d3, d4, g0, g1, g2, g3, g4, lt'⟩ := (unhide B3).all))
  exact ret_o Tryd.results13 rfl (unhide B3) rfl (unhide HB) (by omega) rfl
theorem rbt_shl_D (n k' n' : Int) (t t' : ByteArray) (k0 n0 k1 n1 : Int) (t0 t1 : ByteArray) (J10 : Ret 26 #[.agg (Vc k0 n0 t0)] (.agg (Vc 4 n t))) (J20 : Ret 26 #[.agg (Vc k1 n1 t1)] (.agg (Vc k' n' t'))) (e4 : (k' == 4) = false) : Ret 13 #[.string ⟨#[60, 60]⟩, .agg (Vc k0 n0 t0), .agg (Vc k1 n1 t1)] (.agg (Oc 0 0 ByteArray.empty numT 1)) := by
  intro W
  have J1 := hide J10
  have J2 := hide J20
  unfold Vc at J1 J2 ⊢
  clear J10 J20
  obtain ⟨W2, hW2, b1, b2, b3, hb, hz⟩ := box_box_out W k0 n0 t0 k1 n1 t1
  obtain ⟨c0, c1, c2, -, -, -, lt⟩ := b1.all
  have B2 := hide b2
  have B3 := hide b3
  have HB := hide hb
  clear b1 b2 b3 hb hz
  go_enter Tryd.func13, Tryd.ntmps13
  go_wp2_with (first
    | (go_at_call 26
       refine (unhide J1 _).mono ?_
       clear J1
       rintro e w1 ⟨rfl, hb1⟩
       obtain ⟨W3, hW3, e1, e3, e4⟩ := new_box w1 4 n t
       have hb4 := Below.up hb1 e3
       (try have Z1 := hide ((unhide Z1).up hb4)); (try have Z2 := hide ((unhide Z2).up hb4)); have B2 := hide ((unhide B2).up hb4); have B3 := hide ((unhide B3).up hb4); have HB := hide (Below.up (unhide HB) hb4); clear hb4
       have Z1 := hide e1
       obtain ⟨x0, x1, x2, -, -, -, ly⟩ := (unhide B2).all
       (try obtain ⟨c0, c1, c2, -, -, -, lt⟩ := (unhide Z1).all); (try obtain ⟨x0, x1, x2, -, -, -, ly⟩ := (unhide Z2).all); obtain ⟨d0, d1, d2, d3, d4, g0, g1, g2, g3, g4, lt'⟩ := (unhide B3).all
       clear hb1 e1 e3 e4)
    | (go_at_call 26
       refine (unhide J2 _).mono ?_
       clear J2
       rintro e w1 ⟨rfl, hb1⟩
       obtain ⟨W3, hW3, e1, e3, e4⟩ := new_box w1 k' n' t'
       have hb4 := Below.up hb1 e3
       (try have Z1 := hide ((unhide Z1).up hb4)); (try have Z2 := hide ((unhide Z2).up hb4)); have B2 := hide ((unhide B2).up hb4); have B3 := hide ((unhide B3).up hb4); have HB := hide (Below.up (unhide HB) hb4); clear hb4
       have Z2 := hide e1
       obtain ⟨x0, x1, x2, -, -, -, ly⟩ := (unhide B2).all
       (try obtain ⟨c0, c1, c2, -, -, -, lt⟩ := (unhide Z1).all); (try obtain ⟨x0, x1, x2, -, -, -, ly⟩ := (unhide Z2).all); obtain ⟨d0, d1, d2, d3, d4, g0, g1, g2, g3, g4, lt'⟩ := (unhide B3).all
       clear hb1 e1 e3 e4)
    | (go_at_call 28; refine (rThrow_any numT _).mono ?_; rintro e w4 ⟨rfl, hb4⟩; unfold Oc; (try have Z1 := hide ((unhide Z1).up hb4)); (try have Z2 := hide ((unhide Z2).up hb4)); have B2 := hide ((unhide B2).up hb4); have B3 := hide ((unhide B3).up hb4); have HB := hide (Below.up (unhide HB) hb4); clear hb4; (try obtain ⟨c0, c1, c2, -, -, -, lt⟩ := (unhide Z1).all); (try obtain ⟨x0, x1, x2, -, -, -, ly⟩ := (unhide Z2).all); obtain ⟨d0, d1, d2, d3, d4, g0, g1, g2, g3, g4, lt'⟩ := (unhide B3).all))
  exact ret_o Tryd.results13 rfl (unhide B3) rfl (unhide HB) (by omega) rfl
theorem rbt_shr_A (k n k' n' : Int) (t t' : ByteArray) (k0 n0 k1 n1 : Int) (t0 t1 : ByteArray) (J10 : Ret 26 #[.agg (Vc k0 n0 t0)] (.agg (Vc k n t))) (J20 : Ret 26 #[.agg (Vc k1 n1 t1)] (.agg (Vc k' n' t'))) (e1 : (k == 3) = false) (e3 : (k == 4) = false) : Ret 13 #[.string ⟨#[62, 62]⟩, .agg (Vc k0 n0 t0), .agg (Vc k1 n1 t1)] (.agg (Oc 0 0 ByteArray.empty numT 1)) := by
  intro W
  have J1 := hide J10
  have J2 := hide J20
  unfold Vc at J1 J2 ⊢
  clear J10 J20
  obtain ⟨W2, hW2, b1, b2, b3, hb, hz⟩ := box_box_out W k0 n0 t0 k1 n1 t1
  obtain ⟨c0, c1, c2, -, -, -, lt⟩ := b1.all
  have B2 := hide b2
  have B3 := hide b3
  have HB := hide hb
  clear b1 b2 b3 hb hz
  go_enter Tryd.func13, Tryd.ntmps13
  go_wp2_with (first
    | (go_at_call 26
       refine (unhide J1 _).mono ?_
       clear J1
       rintro e w1 ⟨rfl, hb1⟩
       obtain ⟨W3, hW3, e1, e3, e4⟩ := new_box w1 k n t
       have hb4 := Below.up hb1 e3
       (try have Z1 := hide ((unhide Z1).up hb4)); (try have Z2 := hide ((unhide Z2).up hb4)); have B2 := hide ((unhide B2).up hb4); have B3 := hide ((unhide B3).up hb4); have HB := hide (Below.up (unhide HB) hb4); clear hb4
       have Z1 := hide e1
       obtain ⟨x0, x1, x2, -, -, -, ly⟩ := (unhide B2).all
       (try obtain ⟨c0, c1, c2, -, -, -, lt⟩ := (unhide Z1).all); (try obtain ⟨x0, x1, x2, -, -, -, ly⟩ := (unhide Z2).all); obtain ⟨d0, d1, d2, d3, d4, g0, g1, g2, g3, g4, lt'⟩ := (unhide B3).all
       clear hb1 e1 e3 e4)
    | (go_at_call 26
       refine (unhide J2 _).mono ?_
       clear J2
       rintro e w1 ⟨rfl, hb1⟩
       obtain ⟨W3, hW3, e1, e3, e4⟩ := new_box w1 k' n' t'
       have hb4 := Below.up hb1 e3
       (try have Z1 := hide ((unhide Z1).up hb4)); (try have Z2 := hide ((unhide Z2).up hb4)); have B2 := hide ((unhide B2).up hb4); have B3 := hide ((unhide B3).up hb4); have HB := hide (Below.up (unhide HB) hb4); clear hb4
       have Z2 := hide e1
       obtain ⟨x0, x1, x2, -, -, -, ly⟩ := (unhide B2).all
       (try obtain ⟨c0, c1, c2, -, -, -, lt⟩ := (unhide Z1).all); (try obtain ⟨x0, x1, x2, -, -, -, ly⟩ := (unhide Z2).all); obtain ⟨d0, d1, d2, d3, d4, g0, g1, g2, g3, g4, lt'⟩ := (unhide B3).all
       clear hb1 e1 e3 e4)
    | (go_at_call 28; refine (rThrow_any numT _).mono ?_; rintro e w4 ⟨rfl, hb4⟩; unfold Oc; (try have Z1 := hide ((unhide Z1).up hb4)); (try have Z2 := hide ((unhide Z2).up hb4)); have B2 := hide ((unhide B2).up hb4); have B3 := hide ((unhide B3).up hb4); have HB := hide (Below.up (unhide HB) hb4); clear hb4; (try obtain ⟨c0, c1, c2, -, -, -, lt⟩ := (unhide Z1).all); (try obtain ⟨x0, x1, x2, -, -, -, ly⟩ := (unhide Z2).all); obtain ⟨d0, d1, d2, d3, d4, g0, g1, g2, g3, g4, lt'⟩ := (unhide B3).all))
  exact ret_o Tryd.results13 rfl (unhide B3) rfl (unhide HB) (by omega) rfl
theorem rbt_shr_B (n k' n' : Int) (t t' : ByteArray) (k0 n0 k1 n1 : Int) (t0 t1 : ByteArray) (J10 : Ret 26 #[.agg (Vc k0 n0 t0)] (.agg (Vc 3 n t))) (J20 : Ret 26 #[.agg (Vc k1 n1 t1)] (.agg (Vc k' n' t'))) (e2 : (k' == 3) = false) : Ret 13 #[.string ⟨#[62, 62]⟩, .agg (Vc k0 n0 t0), .agg (Vc k1 n1 t1)] (.agg (Oc 0 0 ByteArray.empty numT 1)) := by
  intro W
  have J1 := hide J10
  have J2 := hide J20
  unfold Vc at J1 J2 ⊢
  clear J10 J20
  obtain ⟨W2, hW2, b1, b2, b3, hb, hz⟩ := box_box_out W k0 n0 t0 k1 n1 t1
  obtain ⟨c0, c1, c2, -, -, -, lt⟩ := b1.all
  have B2 := hide b2
  have B3 := hide b3
  have HB := hide hb
  clear b1 b2 b3 hb hz
  go_enter Tryd.func13, Tryd.ntmps13
  go_wp2_with (first
    | (go_at_call 26
       refine (unhide J1 _).mono ?_
       clear J1
       rintro e w1 ⟨rfl, hb1⟩
       obtain ⟨W3, hW3, e1, e3, e4⟩ := new_box w1 3 n t
       have hb4 := Below.up hb1 e3
       (try have Z1 := hide ((unhide Z1).up hb4)); (try have Z2 := hide ((unhide Z2).up hb4)); have B2 := hide ((unhide B2).up hb4); have B3 := hide ((unhide B3).up hb4); have HB := hide (Below.up (unhide HB) hb4); clear hb4
       have Z1 := hide e1
       obtain ⟨x0, x1, x2, -, -, -, ly⟩ := (unhide B2).all
       (try obtain ⟨c0, c1, c2, -, -, -, lt⟩ := (unhide Z1).all); (try obtain ⟨x0, x1, x2, -, -, -, ly⟩ := (unhide Z2).all); obtain ⟨d0, d1, d2, d3, d4, g0, g1, g2, g3, g4, lt'⟩ := (unhide B3).all
       clear hb1 e1 e3 e4)
    | (go_at_call 26
       refine (unhide J2 _).mono ?_
       clear J2
       rintro e w1 ⟨rfl, hb1⟩
       obtain ⟨W3, hW3, e1, e3, e4⟩ := new_box w1 k' n' t'
       have hb4 := Below.up hb1 e3
       (try have Z1 := hide ((unhide Z1).up hb4)); (try have Z2 := hide ((unhide Z2).up hb4)); have B2 := hide ((unhide B2).up hb4); have B3 := hide ((unhide B3).up hb4); have HB := hide (Below.up (unhide HB) hb4); clear hb4
       have Z2 := hide e1
       obtain ⟨x0, x1, x2, -, -, -, ly⟩ := (unhide B2).all
       (try obtain ⟨c0, c1, c2, -, -, -, lt⟩ := (unhide Z1).all); (try obtain ⟨x0, x1, x2, -, -, -, ly⟩ := (unhide Z2).all); obtain ⟨d0, d1, d2, d3, d4, g0, g1, g2, g3, g4, lt'⟩ := (unhide B3).all
       clear hb1 e1 e3 e4)
    | (go_at_call 28; refine (rThrow_any numT _).mono ?_; rintro e w4 ⟨rfl, hb4⟩; unfold Oc; (try have Z1 := hide ((unhide Z1).up hb4)); (try have Z2 := hide ((unhide Z2).up hb4)); have B2 := hide ((unhide B2).up hb4); have B3 := hide ((unhide B3).up hb4); have HB := hide (Below.up (unhide HB) hb4); clear hb4; (try obtain ⟨c0, c1, c2, -, -, -, lt⟩ := (unhide Z1).all); (try obtain ⟨x0, x1, x2, -, -, -, ly⟩ := (unhide Z2).all); obtain ⟨d0, d1, d2, d3, d4, g0, g1, g2, g3, g4, lt'⟩ := (unhide B3).all))
  exact ret_o Tryd.results13 rfl (unhide B3) rfl (unhide HB) (by omega) rfl
theorem rbt_shr_C (n n' : Int) (t t' : ByteArray) (k0 n0 k1 n1 : Int) (t0 t1 : ByteArray) (J10 : Ret 26 #[.agg (Vc k0 n0 t0)] (.agg (Vc 4 n t))) (J20 : Ret 26 #[.agg (Vc k1 n1 t1)] (.agg (Vc 4 n' t')))  : Ret 13 #[.string ⟨#[62, 62]⟩, .agg (Vc k0 n0 t0), .agg (Vc k1 n1 t1)] (.agg (Oc 0 0 ByteArray.empty numT 1)) := by
  intro W
  have J1 := hide J10
  have J2 := hide J20
  unfold Vc at J1 J2 ⊢
  clear J10 J20
  obtain ⟨W2, hW2, b1, b2, b3, hb, hz⟩ := box_box_out W k0 n0 t0 k1 n1 t1
  obtain ⟨c0, c1, c2, -, -, -, lt⟩ := b1.all
  have B2 := hide b2
  have B3 := hide b3
  have HB := hide hb
  clear b1 b2 b3 hb hz
  go_enter Tryd.func13, Tryd.ntmps13
  go_wp2_with (first
    | (go_at_call 26
       refine (unhide J1 _).mono ?_
       clear J1
       rintro e w1 ⟨rfl, hb1⟩
       obtain ⟨W3, hW3, e1, e3, e4⟩ := new_box w1 4 n t
       have hb4 := Below.up hb1 e3
       (try have Z1 := hide ((unhide Z1).up hb4)); (try have Z2 := hide ((unhide Z2).up hb4)); have B2 := hide ((unhide B2).up hb4); have B3 := hide ((unhide B3).up hb4); have HB := hide (Below.up (unhide HB) hb4); clear hb4
       have Z1 := hide e1
       obtain ⟨x0, x1, x2, -, -, -, ly⟩ := (unhide B2).all
       (try obtain ⟨c0, c1, c2, -, -, -, lt⟩ := (unhide Z1).all); (try obtain ⟨x0, x1, x2, -, -, -, ly⟩ := (unhide Z2).all); obtain ⟨d0, d1, d2, d3, d4, g0, g1, g2, g3, g4, lt'⟩ := (unhide B3).all
       clear hb1 e1 e3 e4)
    | (go_at_call 26
       refine (unhide J2 _).mono ?_
       clear J2
       rintro e w1 ⟨rfl, hb1⟩
       obtain ⟨W3, hW3, e1, e3, e4⟩ := new_box w1 4 n' t'
       have hb4 := Below.up hb1 e3
       (try have Z1 := hide ((unhide Z1).up hb4)); (try have Z2 := hide ((unhide Z2).up hb4)); have B2 := hide ((unhide B2).up hb4); have B3 := hide ((unhide B3).up hb4); have HB := hide (Below.up (unhide HB) hb4); clear hb4
       have Z2 := hide e1
       obtain ⟨x0, x1, x2, -, -, -, ly⟩ := (unhide B2).all
       (try obtain ⟨c0, c1, c2, -, -, -, lt⟩ := (unhide Z1).all); (try obtain ⟨x0, x1, x2, -, -, -, ly⟩ := (unhide Z2).all); obtain ⟨d0, d1, d2, d3, d4, g0, g1, g2, g3, g4, lt'⟩ := (unhide B3).all
       clear hb1 e1 e3 e4)
    | (go_at_call 28; refine (rThrow_any numT _).mono ?_; rintro e w4 ⟨rfl, hb4⟩; unfold Oc; (try have Z1 := hide ((unhide Z1).up hb4)); (try have Z2 := hide ((unhide Z2).up hb4)); have B2 := hide ((unhide B2).up hb4); have B3 := hide ((unhide B3).up hb4); have HB := hide (Below.up (unhide HB) hb4); clear hb4; (try obtain ⟨c0, c1, c2, -, -, -, lt⟩ := (unhide Z1).all); (try obtain ⟨x0, x1, x2, -, -, -, ly⟩ := (unhide Z2).all); obtain ⟨d0, d1, d2, d3, d4, g0, g1, g2, g3, g4, lt'⟩ := (unhide B3).all))
  exact ret_o Tryd.results13 rfl (unhide B3) rfl (unhide HB) (by omega) rfl
theorem rbt_shr_D (n k' n' : Int) (t t' : ByteArray) (k0 n0 k1 n1 : Int) (t0 t1 : ByteArray) (J10 : Ret 26 #[.agg (Vc k0 n0 t0)] (.agg (Vc 4 n t))) (J20 : Ret 26 #[.agg (Vc k1 n1 t1)] (.agg (Vc k' n' t'))) (e4 : (k' == 4) = false) : Ret 13 #[.string ⟨#[62, 62]⟩, .agg (Vc k0 n0 t0), .agg (Vc k1 n1 t1)] (.agg (Oc 0 0 ByteArray.empty numT 1)) := by
  intro W
  have J1 := hide J10
  have J2 := hide J20
  unfold Vc at J1 J2 ⊢
  clear J10 J20
  obtain ⟨W2, hW2, b1, b2, b3, hb, hz⟩ := box_box_out W k0 n0 t0 k1 n1 t1
  obtain ⟨c0, c1, c2, -, -, -, lt⟩ := b1.all
  have B2 := hide b2
  have B3 := hide b3
  have HB := hide hb
  clear b1 b2 b3 hb hz
  go_enter Tryd.func13, Tryd.ntmps13
  go_wp2_with (first
    | (go_at_call 26
       refine (unhide J1 _).mono ?_
       clear J1
       rintro e w1 ⟨rfl, hb1⟩
       obtain ⟨W3, hW3, e1, e3, e4⟩ := new_box w1 4 n t
       have hb4 := Below.up hb1 e3
       (try have Z1 := hide ((unhide Z1).up hb4)); (try have Z2 := hide ((unhide Z2).up hb4)); have B2 := hide ((unhide B2).up hb4); have B3 := hide ((unhide B3).up hb4); have HB := hide (Below.up (unhide HB) hb4); clear hb4
       have Z1 := hide e1
       obtain ⟨x0, x1, x2, -, -, -, ly⟩ := (unhide B2).all
       (try obtain ⟨c0, c1, c2, -, -, -, lt⟩ := (unhide Z1).all); (try obtain ⟨x0, x1, x2, -, -, -, ly⟩ := (unhide Z2).all); obtain ⟨d0, d1, d2, d3, d4, g0, g1, g2, g3, g4, lt'⟩ := (unhide B3).all
       clear hb1 e1 e3 e4)
    | (go_at_call 26
       refine (unhide J2 _).mono ?_
       clear J2
       rintro e w1 ⟨rfl, hb1⟩
       obtain ⟨W3, hW3, e1, e3, e4⟩ := new_box w1 k' n' t'
       have hb4 := Below.up hb1 e3
       (try have Z1 := hide ((unhide Z1).up hb4)); (try have Z2 := hide ((unhide Z2).up hb4)); have B2 := hide ((unhide B2).up hb4); have B3 := hide ((unhide B3).up hb4); have HB := hide (Below.up (unhide HB) hb4); clear hb4
       have Z2 := hide e1
       obtain ⟨x0, x1, x2, -, -, -, ly⟩ := (unhide B2).all
       (try obtain ⟨c0, c1, c2, -, -, -, lt⟩ := (unhide Z1).all); (try obtain ⟨x0, x1, x2, -, -, -, ly⟩ := (unhide Z2).all); obtain ⟨d0, d1, d2, d3, d4, g0, g1, g2, g3, g4, lt'⟩ := (unhide B3).all
       clear hb1 e1 e3 e4)
    | (go_at_call 28; refine (rThrow_any numT _).mono ?_; rintro e w4 ⟨rfl, hb4⟩; unfold Oc; (try have Z1 := hide ((unhide Z1).up hb4)); (try have Z2 := hide ((unhide Z2).up hb4)); have B2 := hide ((unhide B2).up hb4); have B3 := hide ((unhide B3).up hb4); have HB := hide (Below.up (unhide HB) hb4); clear hb4; (try obtain ⟨c0, c1, c2, -, -, -, lt⟩ := (unhide Z1).all); (try obtain ⟨x0, x1, x2, -, -, -, ly⟩ := (unhide Z2).all); obtain ⟨d0, d1, d2, d3, d4, g0, g1, g2, g3, g4, lt'⟩ := (unhide B3).all))
  exact ret_o Tryd.results13 rfl (unhide B3) rfl (unhide HB) (by omega) rfl
theorem rbt_shn_A (k n k' n' : Int) (t t' : ByteArray) (k0 n0 k1 n1 : Int) (t0 t1 : ByteArray) (J10 : Ret 26 #[.agg (Vc k0 n0 t0)] (.agg (Vc k n t))) (J20 : Ret 26 #[.agg (Vc k1 n1 t1)] (.agg (Vc k' n' t'))) (e1 : (k == 3) = false) (e3 : (k == 4) = false) : Ret 13 #[.string ⟨#[62, 62, 62]⟩, .agg (Vc k0 n0 t0), .agg (Vc k1 n1 t1)] (.agg (Oc 0 0 ByteArray.empty numT 1)) := by
  intro W
  have J1 := hide J10
  have J2 := hide J20
  unfold Vc at J1 J2 ⊢
  clear J10 J20
  obtain ⟨W2, hW2, b1, b2, b3, hb, hz⟩ := box_box_out W k0 n0 t0 k1 n1 t1
  obtain ⟨c0, c1, c2, -, -, -, lt⟩ := b1.all
  have B2 := hide b2
  have B3 := hide b3
  have HB := hide hb
  clear b1 b2 b3 hb hz
  go_enter Tryd.func13, Tryd.ntmps13
  go_wp2_with (first
    | (go_at_call 26
       refine (unhide J1 _).mono ?_
       clear J1
       rintro e w1 ⟨rfl, hb1⟩
       obtain ⟨W3, hW3, e1, e3, e4⟩ := new_box w1 k n t
       have hb4 := Below.up hb1 e3
       (try have Z1 := hide ((unhide Z1).up hb4)); (try have Z2 := hide ((unhide Z2).up hb4)); have B2 := hide ((unhide B2).up hb4); have B3 := hide ((unhide B3).up hb4); have HB := hide (Below.up (unhide HB) hb4); clear hb4
       have Z1 := hide e1
       obtain ⟨x0, x1, x2, -, -, -, ly⟩ := (unhide B2).all
       (try obtain ⟨c0, c1, c2, -, -, -, lt⟩ := (unhide Z1).all); (try obtain ⟨x0, x1, x2, -, -, -, ly⟩ := (unhide Z2).all); obtain ⟨d0, d1, d2, d3, d4, g0, g1, g2, g3, g4, lt'⟩ := (unhide B3).all
       clear hb1 e1 e3 e4)
    | (go_at_call 26
       refine (unhide J2 _).mono ?_
       clear J2
       rintro e w1 ⟨rfl, hb1⟩
       obtain ⟨W3, hW3, e1, e3, e4⟩ := new_box w1 k' n' t'
       have hb4 := Below.up hb1 e3
       (try have Z1 := hide ((unhide Z1).up hb4)); (try have Z2 := hide ((unhide Z2).up hb4)); have B2 := hide ((unhide B2).up hb4); have B3 := hide ((unhide B3).up hb4); have HB := hide (Below.up (unhide HB) hb4); clear hb4
       have Z2 := hide e1
       obtain ⟨x0, x1, x2, -, -, -, ly⟩ := (unhide B2).all
       (try obtain ⟨c0, c1, c2, -, -, -, lt⟩ := (unhide Z1).all); (try obtain ⟨x0, x1, x2, -, -, -, ly⟩ := (unhide Z2).all); obtain ⟨d0, d1, d2, d3, d4, g0, g1, g2, g3, g4, lt'⟩ := (unhide B3).all
       clear hb1 e1 e3 e4)
    | (go_at_call 28; refine (rThrow_any numT _).mono ?_; rintro e w4 ⟨rfl, hb4⟩; unfold Oc; (try have Z1 := hide ((unhide Z1).up hb4)); (try have Z2 := hide ((unhide Z2).up hb4)); have B2 := hide ((unhide B2).up hb4); have B3 := hide ((unhide B3).up hb4); have HB := hide (Below.up (unhide HB) hb4); clear hb4; (try obtain ⟨c0, c1, c2, -, -, -, lt⟩ := (unhide Z1).all); (try obtain ⟨x0, x1, x2, -, -, -, ly⟩ := (unhide Z2).all); obtain ⟨d0, d1, d2, d3, d4, g0, g1, g2, g3, g4, lt'⟩ := (unhide B3).all))
  exact ret_o Tryd.results13 rfl (unhide B3) rfl (unhide HB) (by omega) rfl
theorem rbt_shn_B (n k' n' : Int) (t t' : ByteArray) (k0 n0 k1 n1 : Int) (t0 t1 : ByteArray) (J10 : Ret 26 #[.agg (Vc k0 n0 t0)] (.agg (Vc 3 n t))) (J20 : Ret 26 #[.agg (Vc k1 n1 t1)] (.agg (Vc k' n' t'))) (e2 : (k' == 3) = false) : Ret 13 #[.string ⟨#[62, 62, 62]⟩, .agg (Vc k0 n0 t0), .agg (Vc k1 n1 t1)] (.agg (Oc 0 0 ByteArray.empty numT 1)) := by
  intro W
  have J1 := hide J10
  have J2 := hide J20
  unfold Vc at J1 J2 ⊢
  clear J10 J20
  obtain ⟨W2, hW2, b1, b2, b3, hb, hz⟩ := box_box_out W k0 n0 t0 k1 n1 t1
  obtain ⟨c0, c1, c2, -, -, -, lt⟩ := b1.all
  have B2 := hide b2
  have B3 := hide b3
  have HB := hide hb
  clear b1 b2 b3 hb hz
  go_enter Tryd.func13, Tryd.ntmps13
  go_wp2_with (first
    | (go_at_call 26
       refine (unhide J1 _).mono ?_
       clear J1
       rintro e w1 ⟨rfl, hb1⟩
       obtain ⟨W3, hW3, e1, e3, e4⟩ := new_box w1 3 n t
       have hb4 := Below.up hb1 e3
       (try have Z1 := hide ((unhide Z1).up hb4)); (try have Z2 := hide ((unhide Z2).up hb4)); have B2 := hide ((unhide B2).up hb4); have B3 := hide ((unhide B3).up hb4); have HB := hide (Below.up (unhide HB) hb4); clear hb4
       have Z1 := hide e1
       obtain ⟨x0, x1, x2, -, -, -, ly⟩ := (unhide B2).all
       (try obtain ⟨c0, c1, c2, -, -, -, lt⟩ := (unhide Z1).all); (try obtain ⟨x0, x1, x2, -, -, -, ly⟩ := (unhide Z2).all); obtain ⟨d0, d1, d2, d3, d4, g0, g1, g2, g3, g4, lt'⟩ := (unhide B3).all
       clear hb1 e1 e3 e4)
    | (go_at_call 26
       refine (unhide J2 _).mono ?_
       clear J2
       rintro e w1 ⟨rfl, hb1⟩
       obtain ⟨W3, hW3, e1, e3, e4⟩ := new_box w1 k' n' t'
       have hb4 := Below.up hb1 e3
       (try have Z1 := hide ((unhide Z1).up hb4)); (try have Z2 := hide ((unhide Z2).up hb4)); have B2 := hide ((unhide B2).up hb4); have B3 := hide ((unhide B3).up hb4); have HB := hide (Below.up (unhide HB) hb4); clear hb4
       have Z2 := hide e1
       obtain ⟨x0, x1, x2, -, -, -, ly⟩ := (unhide B2).all
       (try obtain ⟨c0, c1, c2, -, -, -, lt⟩ := (unhide Z1).all); (try obtain ⟨x0, x1, x2, -, -, -, ly⟩ := (unhide Z2).all); obtain ⟨d0, d1, d2, d3, d4, g0, g1, g2, g3, g4, lt'⟩ := (unhide B3).all
       clear hb1 e1 e3 e4)
    | (go_at_call 28; refine (rThrow_any numT _).mono ?_; rintro e w4 ⟨rfl, hb4⟩; unfold Oc; (try have Z1 := hide ((unhide Z1).up hb4)); (try have Z2 := hide ((unhide Z2).up hb4)); have B2 := hide ((unhide B2).up hb4); have B3 := hide ((unhide B3).up hb4); have HB := hide (Below.up (unhide HB) hb4); clear hb4; (try obtain ⟨c0, c1, c2, -, -, -, lt⟩ := (unhide Z1).all); (try obtain ⟨x0, x1, x2, -, -, -, ly⟩ := (unhide Z2).all); obtain ⟨d0, d1, d2, d3, d4, g0, g1, g2, g3, g4, lt'⟩ := (unhide B3).all))
  exact ret_o Tryd.results13 rfl (unhide B3) rfl (unhide HB) (by omega) rfl
theorem rbt_shn_C (n n' : Int) (t t' : ByteArray) (k0 n0 k1 n1 : Int) (t0 t1 : ByteArray) (J10 : Ret 26 #[.agg (Vc k0 n0 t0)] (.agg (Vc 4 n t))) (J20 : Ret 26 #[.agg (Vc k1 n1 t1)] (.agg (Vc 4 n' t')))  : Ret 13 #[.string ⟨#[62, 62, 62]⟩, .agg (Vc k0 n0 t0), .agg (Vc k1 n1 t1)] (.agg (Oc 0 0 ByteArray.empty numT 1)) := by
  intro W
  have J1 := hide J10
  have J2 := hide J20
  unfold Vc at J1 J2 ⊢
  clear J10 J20
  obtain ⟨W2, hW2, b1, b2, b3, hb, hz⟩ := box_box_out W k0 n0 t0 k1 n1 t1
  obtain ⟨c0, c1, c2, -, -, -, lt⟩ := b1.all
  have B2 := hide b2
  have B3 := hide b3
  have HB := hide hb
  clear b1 b2 b3 hb hz
  go_enter Tryd.func13, Tryd.ntmps13
  go_wp2_with (first
    | (go_at_call 26
       refine (unhide J1 _).mono ?_
       clear J1
       rintro e w1 ⟨rfl, hb1⟩
       obtain ⟨W3, hW3, e1, e3, e4⟩ := new_box w1 4 n t
       have hb4 := Below.up hb1 e3
       (try have Z1 := hide ((unhide Z1).up hb4)); (try have Z2 := hide ((unhide Z2).up hb4)); have B2 := hide ((unhide B2).up hb4); have B3 := hide ((unhide B3).up hb4); have HB := hide (Below.up (unhide HB) hb4); clear hb4
       have Z1 := hide e1
       obtain ⟨x0, x1, x2, -, -, -, ly⟩ := (unhide B2).all
       (try obtain ⟨c0, c1, c2, -, -, -, lt⟩ := (unhide Z1).all); (try obtain ⟨x0, x1, x2, -, -, -, ly⟩ := (unhide Z2).all); obtain ⟨d0, d1, d2, d3, d4, g0, g1, g2, g3, g4, lt'⟩ := (unhide B3).all
       clear hb1 e1 e3 e4)
    | (go_at_call 26
       refine (unhide J2 _).mono ?_
       clear J2
       rintro e w1 ⟨rfl, hb1⟩
       obtain ⟨W3, hW3, e1, e3, e4⟩ := new_box w1 4 n' t'
       have hb4 := Below.up hb1 e3
       (try have Z1 := hide ((unhide Z1).up hb4)); (try have Z2 := hide ((unhide Z2).up hb4)); have B2 := hide ((unhide B2).up hb4); have B3 := hide ((unhide B3).up hb4); have HB := hide (Below.up (unhide HB) hb4); clear hb4
       have Z2 := hide e1
       obtain ⟨x0, x1, x2, -, -, -, ly⟩ := (unhide B2).all
       (try obtain ⟨c0, c1, c2, -, -, -, lt⟩ := (unhide Z1).all); (try obtain ⟨x0, x1, x2, -, -, -, ly⟩ := (unhide Z2).all); obtain ⟨d0, d1, d2, d3, d4, g0, g1, g2, g3, g4, lt'⟩ := (unhide B3).all
       clear hb1 e1 e3 e4)
    | (go_at_call 28; refine (rThrow_any numT _).mono ?_; rintro e w4 ⟨rfl, hb4⟩; unfold Oc; (try have Z1 := hide ((unhide Z1).up hb4)); (try have Z2 := hide ((unhide Z2).up hb4)); have B2 := hide ((unhide B2).up hb4); have B3 := hide ((unhide B3).up hb4); have HB := hide (Below.up (unhide HB) hb4); clear hb4; (try obtain ⟨c0, c1, c2, -, -, -, lt⟩ := (unhide Z1).all); (try obtain ⟨x0, x1, x2, -, -, -, ly⟩ := (unhide Z2).all); obtain ⟨d0, d1, d2, d3, d4, g0, g1, g2, g3, g4, lt'⟩ := (unhide B3).all))
  exact ret_o Tryd.results13 rfl (unhide B3) rfl (unhide HB) (by omega) rfl
theorem rbt_shn_D (n k' n' : Int) (t t' : ByteArray) (k0 n0 k1 n1 : Int) (t0 t1 : ByteArray) (J10 : Ret 26 #[.agg (Vc k0 n0 t0)] (.agg (Vc 4 n t))) (J20 : Ret 26 #[.agg (Vc k1 n1 t1)] (.agg (Vc k' n' t'))) (e4 : (k' == 4) = false) : Ret 13 #[.string ⟨#[62, 62, 62]⟩, .agg (Vc k0 n0 t0), .agg (Vc k1 n1 t1)] (.agg (Oc 0 0 ByteArray.empty numT 1)) := by
  intro W
  have J1 := hide J10
  have J2 := hide J20
  unfold Vc at J1 J2 ⊢
  clear J10 J20
  obtain ⟨W2, hW2, b1, b2, b3, hb, hz⟩ := box_box_out W k0 n0 t0 k1 n1 t1
  obtain ⟨c0, c1, c2, -, -, -, lt⟩ := b1.all
  have B2 := hide b2
  have B3 := hide b3
  have HB := hide hb
  clear b1 b2 b3 hb hz
  go_enter Tryd.func13, Tryd.ntmps13
  go_wp2_with (first
    | (go_at_call 26
       refine (unhide J1 _).mono ?_
       clear J1
       rintro e w1 ⟨rfl, hb1⟩
       obtain ⟨W3, hW3, e1, e3, e4⟩ := new_box w1 4 n t
       have hb4 := Below.up hb1 e3
       (try have Z1 := hide ((unhide Z1).up hb4)); (try have Z2 := hide ((unhide Z2).up hb4)); have B2 := hide ((unhide B2).up hb4); have B3 := hide ((unhide B3).up hb4); have HB := hide (Below.up (unhide HB) hb4); clear hb4
       have Z1 := hide e1
       obtain ⟨x0, x1, x2, -, -, -, ly⟩ := (unhide B2).all
       (try obtain ⟨c0, c1, c2, -, -, -, lt⟩ := (unhide Z1).all); (try obtain ⟨x0, x1, x2, -, -, -, ly⟩ := (unhide Z2).all); obtain ⟨d0, d1, d2, d3, d4, g0, g1, g2, g3, g4, lt'⟩ := (unhide B3).all
       clear hb1 e1 e3 e4)
    | (go_at_call 26
       refine (unhide J2 _).mono ?_
       clear J2
       rintro e w1 ⟨rfl, hb1⟩
       obtain ⟨W3, hW3, e1, e3, e4⟩ := new_box w1 k' n' t'
       have hb4 := Below.up hb1 e3
       (try have Z1 := hide ((unhide Z1).up hb4)); (try have Z2 := hide ((unhide Z2).up hb4)); have B2 := hide ((unhide B2).up hb4); have B3 := hide ((unhide B3).up hb4); have HB := hide (Below.up (unhide HB) hb4); clear hb4
       have Z2 := hide e1
       obtain ⟨x0, x1, x2, -, -, -, ly⟩ := (unhide B2).all
       (try obtain ⟨c0, c1, c2, -, -, -, lt⟩ := (unhide Z1).all); (try obtain ⟨x0, x1, x2, -, -, -, ly⟩ := (unhide Z2).all); obtain ⟨d0, d1, d2, d3, d4, g0, g1, g2, g3, g4, lt'⟩ := (unhide B3).all
       clear hb1 e1 e3 e4)
    | (go_at_call 28; refine (rThrow_any numT _).mono ?_; rintro e w4 ⟨rfl, hb4⟩; unfold Oc; (try have Z1 := hide ((unhide Z1).up hb4)); (try have Z2 := hide ((unhide Z2).up hb4)); have B2 := hide ((unhide B2).up hb4); have B3 := hide ((unhide B3).up hb4); have HB := hide (Below.up (unhide HB) hb4); clear hb4; (try obtain ⟨c0, c1, c2, -, -, -, lt⟩ := (unhide Z1).all); (try obtain ⟨x0, x1, x2, -, -, -, ly⟩ := (unhide Z2).all); obtain ⟨d0, d1, d2, d3, d4, g0, g1, g2, g3, g4, lt'⟩ := (unhide B3).all))
  exact ret_o Tryd.results13 rfl (unhide B3) rfl (unhide HB) (by omega) rfl
end Go.Proofs.YthjlhdldomfikaaDoor

/- The reference's Binary where a sign of order stands at others. -/
namespace Go.Proofs.YthjlhdldomfikaaDoor
set_option linter.unusedSimpArgs false
set_option linter.unusedVariables false
set_option maxRecDepth 100000
set_option maxHeartbeats 4000000
open Go.RowKit Go.Shelf

theorem rbt_lt_A (k n k' n' : Int) (t t' : ByteArray) (k0 n0 k1 n1 : Int) (t0 t1 : ByteArray) (J10 : Ret 26 #[.agg (Vc k0 n0 t0)] (.agg (Vc k n t))) (J20 : Ret 26 #[.agg (Vc k1 n1 t1)] (.agg (Vc k' n' t'))) (e1 : (k == 3) = false) (e3 : (k == 4) = false) : Ret 13 #[.string ⟨#[60]⟩, .agg (Vc k0 n0 t0), .agg (Vc k1 n1 t1)] (.agg (Oc 0 0 ByteArray.empty ordT 1)) := by
  intro W
  have J1 := hide J10
  have J2 := hide J20
  unfold Vc at J1 J2 ⊢
  clear J10 J20
  obtain ⟨W2, hW2, b1, b2, b3, hb, hz⟩ := box_box_out W k0 n0 t0 k1 n1 t1
  obtain ⟨c0, c1, c2, -, -, -, lt⟩ := b1.all
  have B2 := hide b2
  have B3 := hide b3
  have HB := hide hb
  clear b1 b2 b3 hb hz
  go_enter Tryd.func13, Tryd.ntmps13
  go_wp2_with (first
    | (go_at_call 26
       refine (unhide J1 _).mono ?_
       clear J1
       rintro e w1 ⟨rfl, hb1⟩
       obtain ⟨W3, hW3, e1, e3, e4⟩ := new_box w1 k n t
       have hb4 := Below.up hb1 e3
       (try have Z1 := hide ((unhide Z1).up hb4)); (try have Z2 := hide ((unhide Z2).up hb4)); have B2 := hide ((unhide B2).up hb4); have B3 := hide ((unhide B3).up hb4); have HB := hide (Below.up (unhide HB) hb4); clear hb4
       have Z1 := hide e1
       obtain ⟨x0, x1, x2, -, -, -, ly⟩ := (unhide B2).all
       (try obtain ⟨c0, c1, c2, -, -, -, lt⟩ := (unhide Z1).all); (try obtain ⟨x0, x1, x2, -, -, -, ly⟩ := (unhide Z2).all); obtain ⟨d0, d1, d2, d3, d4, g0, g1, g2, g3, g4, lt'⟩ := (unhide B3).all
       clear hb1 e1 e3 e4)
    | (go_at_call 26
       refine (unhide J2 _).mono ?_
       clear J2
       rintro e w1 ⟨rfl, hb1⟩
       obtain ⟨W3, hW3, e1, e3, e4⟩ := new_box w1 k' n' t'
       have hb4 := Below.up hb1 e3
       (try have Z1 := hide ((unhide Z1).up hb4)); (try have Z2 := hide ((unhide Z2).up hb4)); have B2 := hide ((unhide B2).up hb4); have B3 := hide ((unhide B3).up hb4); have HB := hide (Below.up (unhide HB) hb4); clear hb4
       have Z2 := hide e1
       obtain ⟨x0, x1, x2, -, -, -, ly⟩ := (unhide B2).all
       (try obtain ⟨c0, c1, c2, -, -, -, lt⟩ := (unhide Z1).all); (try obtain ⟨x0, x1, x2, -, -, -, ly⟩ := (unhide Z2).all); obtain ⟨d0, d1, d2, d3, d4, g0, g1, g2, g3, g4, lt'⟩ := (unhide B3).all
       clear hb1 e1 e3 e4)
    | (go_at_call 28; refine (rThrow_any ordT _).mono ?_; rintro e w4 ⟨rfl, hb4⟩; unfold Oc; (try have Z1 := hide ((unhide Z1).up hb4)); (try have Z2 := hide ((unhide Z2).up hb4)); have B2 := hide ((unhide B2).up hb4); have B3 := hide ((unhide B3).up hb4); have HB := hide (Below.up (unhide HB) hb4); clear hb4; (try obtain ⟨c0, c1, c2, -, -, -, lt⟩ := (unhide Z1).all); (try obtain ⟨x0, x1, x2, -, -, -, ly⟩ := (unhide Z2).all); obtain ⟨d0, d1, d2, d3, d4, g0, g1, g2, g3, g4, lt'⟩ := (unhide B3).all))
  exact ret_o Tryd.results13 rfl (unhide B3) rfl (unhide HB) (by omega) rfl
theorem rbt_lt_B (n k' n' : Int) (t t' : ByteArray) (k0 n0 k1 n1 : Int) (t0 t1 : ByteArray) (J10 : Ret 26 #[.agg (Vc k0 n0 t0)] (.agg (Vc 3 n t))) (J20 : Ret 26 #[.agg (Vc k1 n1 t1)] (.agg (Vc k' n' t'))) (e2 : (k' == 3) = false) : Ret 13 #[.string ⟨#[60]⟩, .agg (Vc k0 n0 t0), .agg (Vc k1 n1 t1)] (.agg (Oc 0 0 ByteArray.empty ordT 1)) := by
  intro W
  have J1 := hide J10
  have J2 := hide J20
  unfold Vc at J1 J2 ⊢
  clear J10 J20
  obtain ⟨W2, hW2, b1, b2, b3, hb, hz⟩ := box_box_out W k0 n0 t0 k1 n1 t1
  obtain ⟨c0, c1, c2, -, -, -, lt⟩ := b1.all
  have B2 := hide b2
  have B3 := hide b3
  have HB := hide hb
  clear b1 b2 b3 hb hz
  go_enter Tryd.func13, Tryd.ntmps13
  go_wp2_with (first
    | (go_at_call 26
       refine (unhide J1 _).mono ?_
       clear J1
       rintro e w1 ⟨rfl, hb1⟩
       obtain ⟨W3, hW3, e1, e3, e4⟩ := new_box w1 3 n t
       have hb4 := Below.up hb1 e3
       (try have Z1 := hide ((unhide Z1).up hb4)); (try have Z2 := hide ((unhide Z2).up hb4)); have B2 := hide ((unhide B2).up hb4); have B3 := hide ((unhide B3).up hb4); have HB := hide (Below.up (unhide HB) hb4); clear hb4
       have Z1 := hide e1
       obtain ⟨x0, x1, x2, -, -, -, ly⟩ := (unhide B2).all
       (try obtain ⟨c0, c1, c2, -, -, -, lt⟩ := (unhide Z1).all); (try obtain ⟨x0, x1, x2, -, -, -, ly⟩ := (unhide Z2).all); obtain ⟨d0, d1, d2, d3, d4, g0, g1, g2, g3, g4, lt'⟩ := (unhide B3).all
       clear hb1 e1 e3 e4)
    | (go_at_call 26
       refine (unhide J2 _).mono ?_
       clear J2
       rintro e w1 ⟨rfl, hb1⟩
       obtain ⟨W3, hW3, e1, e3, e4⟩ := new_box w1 k' n' t'
       have hb4 := Below.up hb1 e3
       (try have Z1 := hide ((unhide Z1).up hb4)); (try have Z2 := hide ((unhide Z2).up hb4)); have B2 := hide ((unhide B2).up hb4); have B3 := hide ((unhide B3).up hb4); have HB := hide (Below.up (unhide HB) hb4); clear hb4
       have Z2 := hide e1
       obtain ⟨x0, x1, x2, -, -, -, ly⟩ := (unhide B2).all
       (try obtain ⟨c0, c1, c2, -, -, -, lt⟩ := (unhide Z1).all); (try obtain ⟨x0, x1, x2, -, -, -, ly⟩ := (unhide Z2).all); obtain ⟨d0, d1, d2, d3, d4, g0, g1, g2, g3, g4, lt'⟩ := (unhide B3).all
       clear hb1 e1 e3 e4)
    | (go_at_call 28; refine (rThrow_any ordT _).mono ?_; rintro e w4 ⟨rfl, hb4⟩; unfold Oc; (try have Z1 := hide ((unhide Z1).up hb4)); (try have Z2 := hide ((unhide Z2).up hb4)); have B2 := hide ((unhide B2).up hb4); have B3 := hide ((unhide B3).up hb4); have HB := hide (Below.up (unhide HB) hb4); clear hb4; (try obtain ⟨c0, c1, c2, -, -, -, lt⟩ := (unhide Z1).all); (try obtain ⟨x0, x1, x2, -, -, -, ly⟩ := (unhide Z2).all); obtain ⟨d0, d1, d2, d3, d4, g0, g1, g2, g3, g4, lt'⟩ := (unhide B3).all))
  exact ret_o Tryd.results13 rfl (unhide B3) rfl (unhide HB) (by omega) rfl
theorem rbt_lt_D (n k' n' : Int) (t t' : ByteArray) (k0 n0 k1 n1 : Int) (t0 t1 : ByteArray) (J10 : Ret 26 #[.agg (Vc k0 n0 t0)] (.agg (Vc 4 n t))) (J20 : Ret 26 #[.agg (Vc k1 n1 t1)] (.agg (Vc k' n' t'))) (e4 : (k' == 4) = false) : Ret 13 #[.string ⟨#[60]⟩, .agg (Vc k0 n0 t0), .agg (Vc k1 n1 t1)] (.agg (Oc 0 0 ByteArray.empty ordT 1)) := by
  intro W
  have J1 := hide J10
  have J2 := hide J20
  unfold Vc at J1 J2 ⊢
  clear J10 J20
  obtain ⟨W2, hW2, b1, b2, b3, hb, hz⟩ := box_box_out W k0 n0 t0 k1 n1 t1
  obtain ⟨c0, c1, c2, -, -, -, lt⟩ := b1.all
  have B2 := hide b2
  have B3 := hide b3
  have HB := hide hb
  clear b1 b2 b3 hb hz
  go_enter Tryd.func13, Tryd.ntmps13
  go_wp2_with (first
    | (go_at_call 26
       refine (unhide J1 _).mono ?_
       clear J1
       rintro e w1 ⟨rfl, hb1⟩
       obtain ⟨W3, hW3, e1, e3, e4⟩ := new_box w1 4 n t
       have hb4 := Below.up hb1 e3
       (try have Z1 := hide ((unhide Z1).up hb4)); (try have Z2 := hide ((unhide Z2).up hb4)); have B2 := hide ((unhide B2).up hb4); have B3 := hide ((unhide B3).up hb4); have HB := hide (Below.up (unhide HB) hb4); clear hb4
       have Z1 := hide e1
       obtain ⟨x0, x1, x2, -, -, -, ly⟩ := (unhide B2).all
       (try obtain ⟨c0, c1, c2, -, -, -, lt⟩ := (unhide Z1).all); (try obtain ⟨x0, x1, x2, -, -, -, ly⟩ := (unhide Z2).all); obtain ⟨d0, d1, d2, d3, d4, g0, g1, g2, g3, g4, lt'⟩ := (unhide B3).all
       clear hb1 e1 e3 e4)
    | (go_at_call 26
       refine (unhide J2 _).mono ?_
       clear J2
       rintro e w1 ⟨rfl, hb1⟩
       obtain ⟨W3, hW3, e1, e3, e4⟩ := new_box w1 k' n' t'
       have hb4 := Below.up hb1 e3
       (try have Z1 := hide ((unhide Z1).up hb4)); (try have Z2 := hide ((unhide Z2).up hb4)); have B2 := hide ((unhide B2).up hb4); have B3 := hide ((unhide B3).up hb4); have HB := hide (Below.up (unhide HB) hb4); clear hb4
       have Z2 := hide e1
       obtain ⟨x0, x1, x2, -, -, -, ly⟩ := (unhide B2).all
       (try obtain ⟨c0, c1, c2, -, -, -, lt⟩ := (unhide Z1).all); (try obtain ⟨x0, x1, x2, -, -, -, ly⟩ := (unhide Z2).all); obtain ⟨d0, d1, d2, d3, d4, g0, g1, g2, g3, g4, lt'⟩ := (unhide B3).all
       clear hb1 e1 e3 e4)
    | (go_at_call 28; refine (rThrow_any ordT _).mono ?_; rintro e w4 ⟨rfl, hb4⟩; unfold Oc; (try have Z1 := hide ((unhide Z1).up hb4)); (try have Z2 := hide ((unhide Z2).up hb4)); have B2 := hide ((unhide B2).up hb4); have B3 := hide ((unhide B3).up hb4); have HB := hide (Below.up (unhide HB) hb4); clear hb4; (try obtain ⟨c0, c1, c2, -, -, -, lt⟩ := (unhide Z1).all); (try obtain ⟨x0, x1, x2, -, -, -, ly⟩ := (unhide Z2).all); obtain ⟨d0, d1, d2, d3, d4, g0, g1, g2, g3, g4, lt'⟩ := (unhide B3).all))
  exact ret_o Tryd.results13 rfl (unhide B3) rfl (unhide HB) (by omega) rfl
theorem rbt_le_A (k n k' n' : Int) (t t' : ByteArray) (k0 n0 k1 n1 : Int) (t0 t1 : ByteArray) (J10 : Ret 26 #[.agg (Vc k0 n0 t0)] (.agg (Vc k n t))) (J20 : Ret 26 #[.agg (Vc k1 n1 t1)] (.agg (Vc k' n' t'))) (e1 : (k == 3) = false) (e3 : (k == 4) = false) : Ret 13 #[.string ⟨#[60, 61]⟩, .agg (Vc k0 n0 t0), .agg (Vc k1 n1 t1)] (.agg (Oc 0 0 ByteArray.empty ordT 1)) := by
  intro W
  have J1 := hide J10
  have J2 := hide J20
  unfold Vc at J1 J2 ⊢
  clear J10 J20
  obtain ⟨W2, hW2, b1, b2, b3, hb, hz⟩ := box_box_out W k0 n0 t0 k1 n1 t1
  obtain ⟨c0, c1, c2, -, -, -, lt⟩ := b1.all
  have B2 := hide b2
  have B3 := hide b3
  have HB := hide hb
  clear b1 b2 b3 hb hz
  go_enter Tryd.func13, Tryd.ntmps13
  go_wp2_with (first
    | (go_at_call 26
       refine (unhide J1 _).mono ?_
       clear J1
       rintro e w1 ⟨rfl, hb1⟩
       obtain ⟨W3, hW3, e1, e3, e4⟩ := new_box w1 k n t
       have hb4 := Below.up hb1 e3
       (try have Z1 := hide ((unhide Z1).up hb4)); (try have Z2 := hide ((unhide Z2).up hb4)); have B2 := hide ((unhide B2).up hb4); have B3 := hide ((unhide B3).up hb4); have HB := hide (Below.up (unhide HB) hb4); clear hb4
       have Z1 := hide e1
       obtain ⟨x0, x1, x2, -, -, -, ly⟩ := (unhide B2).all
       (try obtain ⟨c0, c1, c2, -, -, -, lt⟩ := (unhide Z1).all); (try obtain ⟨x0, x1, x2, -, -, -, ly⟩ := (unhide Z2).all); obtain ⟨d0, d1, d2, d3, d4, g0, g1, g2, g3, g4, lt'⟩ := (unhide B3).all
       clear hb1 e1 e3 e4)
    | (go_at_call 26
       refine (unhide J2 _).mono ?_
       clear J2
       rintro e w1 ⟨rfl, hb1⟩
       obtain ⟨W3, hW3, e1, e3, e4⟩ := new_box w1 k' n' t'
       have hb4 := Below.up hb1 e3
       (try have Z1 := hide ((unhide Z1).up hb4)); (try have Z2 := hide ((unhide Z2).up hb4)); have B2 := hide ((unhide B2).up hb4); have B3 := hide ((unhide B3).up hb4); have HB := hide (Below.up (unhide HB) hb4); clear hb4
       have Z2 := hide e1
       obtain ⟨x0, x1, x2, -, -, -, ly⟩ := (unhide B2).all
       (try obtain ⟨c0, c1, c2, -, -, -, lt⟩ := (unhide Z1).all); (try obtain ⟨x0, x1, x2, -, -, -, ly⟩ := (unhide Z2).all); obtain ⟨d0, d1, d2, d3, d4, g0, g1, g2, g3, g4, lt'⟩ := (unhide B3).all
       clear hb1 e1 e3 e4)
    | (go_at_call 28; refine (rThrow_any ordT _).mono ?_; rintro e w4 ⟨rfl, hb4⟩; unfold Oc; (try have Z1 := hide ((unhide Z1).up hb4)); (try have Z2 := hide ((unhide Z2).up hb4)); have B2 := hide ((unhide B2).up hb4); have B3 := hide ((unhide B3).up hb4); have HB := hide (Below.up (unhide HB) hb4); clear hb4; (try obtain ⟨c0, c1, c2, -, -, -, lt⟩ := (unhide Z1).all); (try obtain ⟨x0, x1, x2, -, -, -, ly⟩ := (unhide Z2).all); obtain ⟨d0, d1, d2, d3, d4, g0, g1, g2, g3, g4, lt'⟩ := (unhide B3).all))
  exact ret_o Tryd.results13 rfl (unhide B3) rfl (unhide HB) (by omega) rfl
theorem rbt_le_B (n k' n' : Int) (t t' : ByteArray) (k0 n0 k1 n1 : Int) (t0 t1 : ByteArray) (J10 : Ret 26 #[.agg (Vc k0 n0 t0)] (.agg (Vc 3 n t))) (J20 : Ret 26 #[.agg (Vc k1 n1 t1)] (.agg (Vc k' n' t'))) (e2 : (k' == 3) = false) : Ret 13 #[.string ⟨#[60, 61]⟩, .agg (Vc k0 n0 t0), .agg (Vc k1 n1 t1)] (.agg (Oc 0 0 ByteArray.empty ordT 1)) := by
  intro W
  have J1 := hide J10
  have J2 := hide J20
  unfold Vc at J1 J2 ⊢
  clear J10 J20
  obtain ⟨W2, hW2, b1, b2, b3, hb, hz⟩ := box_box_out W k0 n0 t0 k1 n1 t1
  obtain ⟨c0, c1, c2, -, -, -, lt⟩ := b1.all
  have B2 := hide b2
  have B3 := hide b3
  have HB := hide hb
  clear b1 b2 b3 hb hz
  go_enter Tryd.func13, Tryd.ntmps13
  go_wp2_with (first
    | (go_at_call 26
       refine (unhide J1 _).mono ?_
       clear J1
       rintro e w1 ⟨rfl, hb1⟩
       obtain ⟨W3, hW3, e1, e3, e4⟩ := new_box w1 3 n t
       have hb4 := Below.up hb1 e3
       (try have Z1 := hide ((unhide Z1).up hb4)); (try have Z2 := hide ((unhide Z2).up hb4)); have B2 := hide ((unhide B2).up hb4); have B3 := hide ((unhide B3).up hb4); have HB := hide (Below.up (unhide HB) hb4); clear hb4
       have Z1 := hide e1
       obtain ⟨x0, x1, x2, -, -, -, ly⟩ := (unhide B2).all
       (try obtain ⟨c0, c1, c2, -, -, -, lt⟩ := (unhide Z1).all); (try obtain ⟨x0, x1, x2, -, -, -, ly⟩ := (unhide Z2).all); obtain ⟨d0, d1, d2, d3, d4, g0, g1, g2, g3, g4, lt'⟩ := (unhide B3).all
       clear hb1 e1 e3 e4)
    | (go_at_call 26
       refine (unhide J2 _).mono ?_
       clear J2
       rintro e w1 ⟨rfl, hb1⟩
       obtain ⟨W3, hW3, e1, e3, e4⟩ := new_box w1 k' n' t'
       have hb4 := Below.up hb1 e3
       (try have Z1 := hide ((unhide Z1).up hb4)); (try have Z2 := hide ((unhide Z2).up hb4)); have B2 := hide ((unhide B2).up hb4); have B3 := hide ((unhide B3).up hb4); have HB := hide (Below.up (unhide HB) hb4); clear hb4
       have Z2 := hide e1
       obtain ⟨x0, x1, x2, -, -, -, ly⟩ := (unhide B2).all
       (try obtain ⟨c0, c1, c2, -, -, -, lt⟩ := (unhide Z1).all); (try obtain ⟨x0, x1, x2, -, -, -, ly⟩ := (unhide Z2).all); obtain ⟨d0, d1, d2, d3, d4, g0, g1, g2, g3, g4, lt'⟩ := (unhide B3).all
       clear hb1 e1 e3 e4)
    | (go_at_call 28; refine (rThrow_any ordT _).mono ?_; rintro e w4 ⟨rfl, hb4⟩; unfold Oc; (try have Z1 := hide ((unhide Z1).up hb4)); (try have Z2 := hide ((unhide Z2).up hb4)); have B2 := hide ((unhide B2).up hb4); have B3 := hide ((unhide B3).up hb4); have HB := hide (Below.up (unhide HB) hb4); clear hb4; (try obtain ⟨c0, c1, c2, -, -, -, lt⟩ := (unhide Z1).all); (try obtain ⟨x0, x1, x2, -, -, -, ly⟩ := (unhide Z2).all); obtain ⟨d0, d1, d2, d3, d4, g0, g1, g2, g3, g4, lt'⟩ := (unhide B3).all))
  exact ret_o Tryd.results13 rfl (unhide B3) rfl (unhide HB) (by omega) rfl
theorem rbt_le_D (n k' n' : Int) (t t' : ByteArray) (k0 n0 k1 n1 : Int) (t0 t1 : ByteArray) (J10 : Ret 26 #[.agg (Vc k0 n0 t0)] (.agg (Vc 4 n t))) (J20 : Ret 26 #[.agg (Vc k1 n1 t1)] (.agg (Vc k' n' t'))) (e4 : (k' == 4) = false) : Ret 13 #[.string ⟨#[60, 61]⟩, .agg (Vc k0 n0 t0), .agg (Vc k1 n1 t1)] (.agg (Oc 0 0 ByteArray.empty ordT 1)) := by
  intro W
  have J1 := hide J10
  have J2 := hide J20
  unfold Vc at J1 J2 ⊢
  clear J10 J20
  obtain ⟨W2, hW2, b1, b2, b3, hb, hz⟩ := box_box_out W k0 n0 t0 k1 n1 t1
  obtain ⟨c0, c1, c2, -, -, -, lt⟩ := b1.all
  have B2 := hide b2
  have B3 := hide b3
  have HB := hide hb
  clear b1 b2 b3 hb hz
  go_enter Tryd.func13, Tryd.ntmps13
  go_wp2_with (first
    | (go_at_call 26
       refine (unhide J1 _).mono ?_
       clear J1
       rintro e w1 ⟨rfl, hb1⟩
       obtain ⟨W3, hW3, e1, e3, e4⟩ := new_box w1 4 n t
       have hb4 := Below.up hb1 e3
       (try have Z1 := hide ((unhide Z1).up hb4)); (try have Z2 := hide ((unhide Z2).up hb4)); have B2 := hide ((unhide B2).up hb4); have B3 := hide ((unhide B3).up hb4); have HB := hide (Below.up (unhide HB) hb4); clear hb4
       have Z1 := hide e1
       obtain ⟨x0, x1, x2, -, -, -, ly⟩ := (unhide B2).all
       (try obtain ⟨c0, c1, c2, -, -, -, lt⟩ := (unhide Z1).all); (try obtain ⟨x0, x1, x2, -, -, -, ly⟩ := (unhide Z2).all); obtain ⟨d0, d1, d2, d3, d4, g0, g1, g2, g3, g4, lt'⟩ := (unhide B3).all
       clear hb1 e1 e3 e4)
    | (go_at_call 26
       refine (unhide J2 _).mono ?_
       clear J2
       rintro e w1 ⟨rfl, hb1⟩
       obtain ⟨W3, hW3, e1, e3, e4⟩ := new_box w1 k' n' t'
       have hb4 := Below.up hb1 e3
       (try have Z1 := hide ((unhide Z1).up hb4)); (try have Z2 := hide ((unhide Z2).up hb4)); have B2 := hide ((unhide B2).up hb4); have B3 := hide ((unhide B3).up hb4); have HB := hide (Below.up (unhide HB) hb4); clear hb4
       have Z2 := hide e1
       obtain ⟨x0, x1, x2, -, -, -, ly⟩ := (unhide B2).all
       (try obtain ⟨c0, c1, c2, -, -, -, lt⟩ := (unhide Z1).all); (try obtain ⟨x0, x1, x2, -, -, -, ly⟩ := (unhide Z2).all); obtain ⟨d0, d1, d2, d3, d4, g0, g1, g2, g3, g4, lt'⟩ := (unhide B3).all
       clear hb1 e1 e3 e4)
    | (go_at_call 28; refine (rThrow_any ordT _).mono ?_; rintro e w4 ⟨rfl, hb4⟩; unfold Oc; (try have Z1 := hide ((unhide Z1).up hb4)); (try have Z2 := hide ((unhide Z2).up hb4)); have B2 := hide ((unhide B2).up hb4); have B3 := hide ((unhide B3).up hb4); have HB := hide (Below.up (unhide HB) hb4); clear hb4; (try obtain ⟨c0, c1, c2, -, -, -, lt⟩ := (unhide Z1).all); (try obtain ⟨x0, x1, x2, -, -, -, ly⟩ := (unhide Z2).all); obtain ⟨d0, d1, d2, d3, d4, g0, g1, g2, g3, g4, lt'⟩ := (unhide B3).all))
  exact ret_o Tryd.results13 rfl (unhide B3) rfl (unhide HB) (by omega) rfl
theorem rbt_gt_A (k n k' n' : Int) (t t' : ByteArray) (k0 n0 k1 n1 : Int) (t0 t1 : ByteArray) (J10 : Ret 26 #[.agg (Vc k0 n0 t0)] (.agg (Vc k n t))) (J20 : Ret 26 #[.agg (Vc k1 n1 t1)] (.agg (Vc k' n' t'))) (e1 : (k == 3) = false) (e3 : (k == 4) = false) : Ret 13 #[.string ⟨#[62]⟩, .agg (Vc k0 n0 t0), .agg (Vc k1 n1 t1)] (.agg (Oc 0 0 ByteArray.empty ordT 1)) := by
  intro W
  have J1 := hide J10
  have J2 := hide J20
  unfold Vc at J1 J2 ⊢
  clear J10 J20
  obtain ⟨W2, hW2, b1, b2, b3, hb, hz⟩ := box_box_out W k0 n0 t0 k1 n1 t1
  obtain ⟨c0, c1, c2, -, -, -, lt⟩ := b1.all
  have B2 := hide b2
  have B3 := hide b3
  have HB := hide hb
  clear b1 b2 b3 hb hz
  go_enter Tryd.func13, Tryd.ntmps13
  go_wp2_with (first
    | (go_at_call 26
       refine (unhide J1 _).mono ?_
       clear J1
       rintro e w1 ⟨rfl, hb1⟩
       obtain ⟨W3, hW3, e1, e3, e4⟩ := new_box w1 k n t
       have hb4 := Below.up hb1 e3
       (try have Z1 := hide ((unhide Z1).up hb4)); (try have Z2 := hide ((unhide Z2).up hb4)); have B2 := hide ((unhide B2).up hb4); have B3 := hide ((unhide B3).up hb4); have HB := hide (Below.up (unhide HB) hb4); clear hb4
       have Z1 := hide e1
       obtain ⟨x0, x1, x2, -, -, -, ly⟩ := (unhide B2).all
       (try obtain ⟨c0, c1, c2, -, -, -, lt⟩ := (unhide Z1).all); (try obtain ⟨x0, x1, x2, -, -, -, ly⟩ := (unhide Z2).all); obtain ⟨d0, d1, d2, d3, d4, g0, g1, g2, g3, g4, lt'⟩ := (unhide B3).all
       clear hb1 e1 e3 e4)
    | (go_at_call 26
       refine (unhide J2 _).mono ?_
       clear J2
       rintro e w1 ⟨rfl, hb1⟩
       obtain ⟨W3, hW3, e1, e3, e4⟩ := new_box w1 k' n' t'
       have hb4 := Below.up hb1 e3
       (try have Z1 := hide ((unhide Z1).up hb4)); (try have Z2 := hide ((unhide Z2).up hb4)); have B2 := hide ((unhide B2).up hb4); have B3 := hide ((unhide B3).up hb4); have HB := hide (Below.up (unhide HB) hb4); clear hb4
       have Z2 := hide e1
       obtain ⟨x0, x1, x2, -, -, -, ly⟩ := (unhide B2).all
       (try obtain ⟨c0, c1, c2, -, -, -, lt⟩ := (unhide Z1).all); (try obtain ⟨x0, x1, x2, -, -, -, ly⟩ := (unhide Z2).all); obtain ⟨d0, d1, d2, d3, d4, g0, g1, g2, g3, g4, lt'⟩ := (unhide B3).all
       clear hb1 e1 e3 e4)
    | (go_at_call 28; refine (rThrow_any ordT _).mono ?_; rintro e w4 ⟨rfl, hb4⟩; unfold Oc; (try have Z1 := hide ((unhide Z1).up hb4)); (try have Z2 := hide ((unhide Z2).up hb4)); have B2 := hide ((unhide B2).up hb4); have B3 := hide ((unhide B3).up hb4); have HB := hide (Below.up (unhide HB) hb4); clear hb4; (try obtain ⟨c0, c1, c2, -, -, -, lt⟩ := (unhide Z1).all); (try obtain ⟨x0, x1, x2, -, -, -, ly⟩ := (unhide Z2).all); obtain ⟨d0, d1, d2, d3, d4, g0, g1, g2, g3, g4, lt'⟩ := (unhide B3).all))
  exact ret_o Tryd.results13 rfl (unhide B3) rfl (unhide HB) (by omega) rfl
theorem rbt_gt_B (n k' n' : Int) (t t' : ByteArray) (k0 n0 k1 n1 : Int) (t0 t1 : ByteArray) (J10 : Ret 26 #[.agg (Vc k0 n0 t0)] (.agg (Vc 3 n t))) (J20 : Ret 26 #[.agg (Vc k1 n1 t1)] (.agg (Vc k' n' t'))) (e2 : (k' == 3) = false) : Ret 13 #[.string ⟨#[62]⟩, .agg (Vc k0 n0 t0), .agg (Vc k1 n1 t1)] (.agg (Oc 0 0 ByteArray.empty ordT 1)) := by
  intro W
  have J1 := hide J10
  have J2 := hide J20
  unfold Vc at J1 J2 ⊢
  clear J10 J20
  obtain ⟨W2, hW2, b1, b2, b3, hb, hz⟩ := box_box_out W k0 n0 t0 k1 n1 t1
  obtain ⟨c0, c1, c2, -, -, -, lt⟩ := b1.all
  have B2 := hide b2
  have B3 := hide b3
  have HB := hide hb
  clear b1 b2 b3 hb hz
  go_enter Tryd.func13, Tryd.ntmps13
  go_wp2_with (first
    | (go_at_call 26
       refine (unhide J1 _).mono ?_
       clear J1
       rintro e w1 ⟨rfl, hb1⟩
       obtain ⟨W3, hW3, e1, e3, e4⟩ := new_box w1 3 n t
       have hb4 := Below.up hb1 e3
       (try have Z1 := hide ((unhide Z1).up hb4)); (try have Z2 := hide ((unhide Z2).up hb4)); have B2 := hide ((unhide B2).up hb4); have B3 := hide ((unhide B3).up hb4); have HB := hide (Below.up (unhide HB) hb4); clear hb4
       have Z1 := hide e1
       obtain ⟨x0, x1, x2, -, -, -, ly⟩ := (unhide B2).all
       (try obtain ⟨c0, c1, c2, -, -, -, lt⟩ := (unhide Z1).all); (try obtain ⟨x0, x1, x2, -, -, -, ly⟩ := (unhide Z2).all); obtain ⟨d0, d1, d2, d3, d4, g0, g1, g2, g3, g4, lt'⟩ := (unhide B3).all
       clear hb1 e1 e3 e4)
    | (go_at_call 26
       refine (unhide J2 _).mono ?_
       clear J2
       rintro e w1 ⟨rfl, hb1⟩
       obtain ⟨W3, hW3, e1, e3, e4⟩ := new_box w1 k' n' t'
       have hb4 := Below.up hb1 e3
       (try have Z1 := hide ((unhide Z1).up hb4)); (try have Z2 := hide ((unhide Z2).up hb4)); have B2 := hide ((unhide B2).up hb4); have B3 := hide ((unhide B3).up hb4); have HB := hide (Below.up (unhide HB) hb4); clear hb4
       have Z2 := hide e1
       obtain ⟨x0, x1, x2, -, -, -, ly⟩ := (unhide B2).all
       (try obtain ⟨c0, c1, c2, -, -, -, lt⟩ := (unhide Z1).all); (try obtain ⟨x0, x1, x2, -, -, -, ly⟩ := (unhide Z2).all); obtain ⟨d0, d1, d2, d3, d4, g0, g1, g2, g3, g4, lt'⟩ := (unhide B3).all
       clear hb1 e1 e3 e4)
    | (go_at_call 28; refine (rThrow_any ordT _).mono ?_; rintro e w4 ⟨rfl, hb4⟩; unfold Oc; (try have Z1 := hide ((unhide Z1).up hb4)); (try have Z2 := hide ((unhide Z2).up hb4)); have B2 := hide ((unhide B2).up hb4); have B3 := hide ((unhide B3).up hb4); have HB := hide (Below.up (unhide HB) hb4); clear hb4; (try obtain ⟨c0, c1, c2, -, -, -, lt⟩ := (unhide Z1).all); (try obtain ⟨x0, x1, x2, -, -, -, ly⟩ := (unhide Z2).all); obtain ⟨d0, d1, d2, d3, d4, g0, g1, g2, g3, g4, lt'⟩ := (unhide B3).all))
  exact ret_o Tryd.results13 rfl (unhide B3) rfl (unhide HB) (by omega) rfl
theorem rbt_gt_D (n k' n' : Int) (t t' : ByteArray) (k0 n0 k1 n1 : Int) (t0 t1 : ByteArray) (J10 : Ret 26 #[.agg (Vc k0 n0 t0)] (.agg (Vc 4 n t))) (J20 : Ret 26 #[.agg (Vc k1 n1 t1)] (.agg (Vc k' n' t'))) (e4 : (k' == 4) = false) : Ret 13 #[.string ⟨#[62]⟩, .agg (Vc k0 n0 t0), .agg (Vc k1 n1 t1)] (.agg (Oc 0 0 ByteArray.empty ordT 1)) := by
  intro W
  have J1 := hide J10
  have J2 := hide J20
  unfold Vc at J1 J2 ⊢
  clear J10 J20
  obtain ⟨W2, hW2, b1, b2, b3, hb, hz⟩ := box_box_out W k0 n0 t0 k1 n1 t1
  obtain ⟨c0, c1, c2, -, -, -, lt⟩ := b1.all
  have B2 := hide b2
  have B3 := hide b3
  have HB := hide hb
  clear b1 b2 b3 hb hz
  go_enter Tryd.func13, Tryd.ntmps13
  go_wp2_with (first
    | (go_at_call 26
       refine (unhide J1 _).mono ?_
       clear J1
       rintro e w1 ⟨rfl, hb1⟩
       obtain ⟨W3, hW3, e1, e3, e4⟩ := new_box w1 4 n t
       have hb4 := Below.up hb1 e3
       (try have Z1 := hide ((unhide Z1).up hb4)); (try have Z2 := hide ((unhide Z2).up hb4)); have B2 := hide ((unhide B2).up hb4); have B3 := hide ((unhide B3).up hb4); have HB := hide (Below.up (unhide HB) hb4); clear hb4
       have Z1 := hide e1
       obtain ⟨x0, x1, x2, -, -, -, ly⟩ := (unhide B2).all
       (try obtain ⟨c0, c1, c2, -, -, -, lt⟩ := (unhide Z1).all); (try obtain ⟨x0, x1, x2, -, -, -, ly⟩ := (unhide Z2).all); obtain ⟨d0, d1, d2, d3, d4, g0, g1, g2, g3, g4, lt'⟩ := (unhide B3).all
       clear hb1 e1 e3 e4)
    | (go_at_call 26
       refine (unhide J2 _).mono ?_
       clear J2
       rintro e w1 ⟨rfl, hb1⟩
       obtain ⟨W3, hW3, e1, e3, e4⟩ := new_box w1 k' n' t'
       have hb4 := Below.up hb1 e3
       (try have Z1 := hide ((unhide Z1).up hb4)); (try have Z2 := hide ((unhide Z2).up hb4)); have B2 := hide ((unhide B2).up hb4); have B3 := hide ((unhide B3).up hb4); have HB := hide (Below.up (unhide HB) hb4); clear hb4
       have Z2 := hide e1
       obtain ⟨x0, x1, x2, -, -, -, ly⟩ := (unhide B2).all
       (try obtain ⟨c0, c1, c2, -, -, -, lt⟩ := (unhide Z1).all); (try obtain ⟨x0, x1, x2, -, -, -, ly⟩ := (unhide Z2).all); obtain ⟨d0, d1, d2, d3, d4, g0, g1, g2, g3, g4, lt'⟩ := (unhide B3).all
       clear hb1 e1 e3 e4)
    | (go_at_call 28; refine (rThrow_any ordT _).mono ?_; rintro e w4 ⟨rfl, hb4⟩; unfold Oc; (try have Z1 := hide ((unhide Z1).up hb4)); (try have Z2 := hide ((unhide Z2).up hb4)); have B2 := hide ((unhide B2).up hb4); have B3 := hide ((unhide B3).up hb4); have HB := hide (Below.up (unhide HB) hb4); clear hb4; (try obtain ⟨c0, c1, c2, -, -, -, lt⟩ := (unhide Z1).all); (try obtain ⟨x0, x1, x2, -, -, -, ly⟩ := (unhide Z2).all); obtain ⟨d0, d1, d2, d3, d4, g0, g1, g2, g3, g4, lt'⟩ := (unhide B3).all))
  exact ret_o Tryd.results13 rfl (unhide B3) rfl (unhide HB) (by omega) rfl
theorem rbt_ge_A (k n k' n' : Int) (t t' : ByteArray) (k0 n0 k1 n1 : Int) (t0 t1 : ByteArray) (J10 : Ret 26 #[.agg (Vc k0 n0 t0)] (.agg (Vc k n t))) (J20 : Ret 26 #[.agg (Vc k1 n1 t1)] (.agg (Vc k' n' t'))) (e1 : (k == 3) = false) (e3 : (k == 4) = false) : Ret 13 #[.string ⟨#[62, 61]⟩, .agg (Vc k0 n0 t0), .agg (Vc k1 n1 t1)] (.agg (Oc 0 0 ByteArray.empty ordT 1)) := by
  intro W
  have J1 := hide J10
  have J2 := hide J20
  unfold Vc at J1 J2 ⊢
  clear J10 J20
  obtain ⟨W2, hW2, b1, b2, b3, hb, hz⟩ := box_box_out W k0 n0 t0 k1 n1 t1
  obtain ⟨c0, c1, c2, -, -, -, lt⟩ := b1.all
  have B2 := hide b2
  have B3 := hide b3
  have HB := hide hb
  clear b1 b2 b3 hb hz
  go_enter Tryd.func13, Tryd.ntmps13
  go_wp2_with (first
    | (go_at_call 26
       refine (unhide J1 _).mono ?_
       clear J1
       rintro e w1 ⟨rfl, hb1⟩
       obtain ⟨W3, hW3, e1, e3, e4⟩ := new_box w1 k n t
       have hb4 := Below.up hb1 e3
       (try have Z1 := hide ((unhide Z1).up hb4)); (try have Z2 := hide ((unhide Z2).up hb4)); have B2 := hide ((unhide B2).up hb4); have B3 := hide ((unhide B3).up hb4); have HB := hide (Below.up (unhide HB) hb4); clear hb4
       have Z1 := hide e1
       obtain ⟨x0, x1, x2, -, -, -, ly⟩ := (unhide B2).all
       (try obtain ⟨c0, c1, c2, -, -, -, lt⟩ := (unhide Z1).all); (try obtain ⟨x0, x1, x2, -, -, -, ly⟩ := (unhide Z2).all); obtain ⟨d0, d1, d2, d3, d4, g0, g1, g2, g3, g4, lt'⟩ := (unhide B3).all
       clear hb1 e1 e3 e4)
    | (go_at_call 26
       refine (unhide J2 _).mono ?_
       clear J2
       rintro e w1 ⟨rfl, hb1⟩
       obtain ⟨W3, hW3, e1, e3, e4⟩ := new_box w1 k' n' t'
       have hb4 := Below.up hb1 e3
       (try have Z1 := hide ((unhide Z1).up hb4)); (try have Z2 := hide ((unhide Z2).up hb4)); have B2 := hide ((unhide B2).up hb4); have B3 := hide ((unhide B3).up hb4); have HB := hide (Below.up (unhide HB) hb4); clear hb4
       have Z2 := hide e1
       obtain ⟨x0, x1, x2, -, -, -, ly⟩ := (unhide B2).all
       (try obtain ⟨c0, c1, c2, -, -, -, lt⟩ := (unhide Z1).all); (try obtain ⟨x0, x1, x2, -, -, -, ly⟩ := (unhide Z2).all); obtain ⟨d0, d1, d2, d3, d4, g0, g1, g2, g3, g4, lt'⟩ := (unhide B3).all
       clear hb1 e1 e3 e4)
    | (go_at_call 28; refine (rThrow_any ordT _).mono ?_; rintro e w4 ⟨rfl, hb4⟩; unfold Oc; (try have Z1 := hide ((unhide Z1).up hb4)); (try have Z2 := hide ((unhide Z2).up hb4)); have B2 := hide ((unhide B2).up hb4); have B3 := hide ((unhide B3).up hb4); have HB := hide (Below.up (unhide HB) hb4); clear hb4; (try obtain ⟨c0, c1, c2, -, -, -, lt⟩ := (unhide Z1).all); (try obtain ⟨x0, x1, x2, -, -, -, ly⟩ := (unhide Z2).all); obtain ⟨d0, d1, d2, d3, d4, g0, g1, g2, g3, g4, lt'⟩ := (unhide B3).all))
  exact ret_o Tryd.results13 rfl (unhide B3) rfl (unhide HB) (by omega) rfl
theorem rbt_ge_B (n k' n' : Int) (t t' : ByteArray) (k0 n0 k1 n1 : Int) (t0 t1 : ByteArray) (J10 : Ret 26 #[.agg (Vc k0 n0 t0)] (.agg (Vc 3 n t))) (J20 : Ret 26 #[.agg (Vc k1 n1 t1)] (.agg (Vc k' n' t'))) (e2 : (k' == 3) = false) : Ret 13 #[.string ⟨#[62, 61]⟩, .agg (Vc k0 n0 t0), .agg (Vc k1 n1 t1)] (.agg (Oc 0 0 ByteArray.empty ordT 1)) := by
  intro W
  have J1 := hide J10
  have J2 := hide J20
  unfold Vc at J1 J2 ⊢
  clear J10 J20
  obtain ⟨W2, hW2, b1, b2, b3, hb, hz⟩ := box_box_out W k0 n0 t0 k1 n1 t1
  obtain ⟨c0, c1, c2, -, -, -, lt⟩ := b1.all
  have B2 := hide b2
  have B3 := hide b3
  have HB := hide hb
  clear b1 b2 b3 hb hz
  go_enter Tryd.func13, Tryd.ntmps13
  go_wp2_with (first
    | (go_at_call 26
       refine (unhide J1 _).mono ?_
       clear J1
       rintro e w1 ⟨rfl, hb1⟩
       obtain ⟨W3, hW3, e1, e3, e4⟩ := new_box w1 3 n t
       have hb4 := Below.up hb1 e3
       (try have Z1 := hide ((unhide Z1).up hb4)); (try have Z2 := hide ((unhide Z2).up hb4)); have B2 := hide ((unhide B2).up hb4); have B3 := hide ((unhide B3).up hb4); have HB := hide (Below.up (unhide HB) hb4); clear hb4
       have Z1 := hide e1
       obtain ⟨x0, x1, x2, -, -, -, ly⟩ := (unhide B2).all
       (try obtain ⟨c0, c1, c2, -, -, -, lt⟩ := (unhide Z1).all); (try obtain ⟨x0, x1, x2, -, -, -, ly⟩ := (unhide Z2).all); obtain ⟨d0, d1, d2, d3, d4, g0, g1, g2, g3, g4, lt'⟩ := (unhide B3).all
       clear hb1 e1 e3 e4)
    | (go_at_call 26
       refine (unhide J2 _).mono ?_
       clear J2
       rintro e w1 ⟨rfl, hb1⟩
       obtain ⟨W3, hW3, e1, e3, e4⟩ := new_box w1 k' n' t'
       have hb4 := Below.up hb1 e3
       (try have Z1 := hide ((unhide Z1).up hb4)); (try have Z2 := hide ((unhide Z2).up hb4)); have B2 := hide ((unhide B2).up hb4); have B3 := hide ((unhide B3).up hb4); have HB := hide (Below.up (unhide HB) hb4); clear hb4
       have Z2 := hide e1
       obtain ⟨x0, x1, x2, -, -, -, ly⟩ := (unhide B2).all
       (try obtain ⟨c0, c1, c2, -, -, -, lt⟩ := (unhide Z1).all); (try obtain ⟨x0, x1, x2, -, -, -, ly⟩ := (unhide Z2).all); obtain ⟨d0, d1, d2, d3, d4, g0, g1, g2, g3, g4, lt'⟩ := (unhide B3).all
       clear hb1 e1 e3 e4)
    | (go_at_call 28; refine (rThrow_any ordT _).mono ?_; rintro e w4 ⟨rfl, hb4⟩; unfold Oc; (try have Z1 := hide ((unhide Z1).up hb4)); (try have Z2 := hide ((unhide Z2).up hb4)); have B2 := hide ((unhide B2).up hb4); have B3 := hide ((unhide B3).up hb4); have HB := hide (Below.up (unhide HB) hb4); clear hb4; (try obtain ⟨c0, c1, c2, -, -, -, lt⟩ := (unhide Z1).all); (try obtain ⟨x0, x1, x2, -, -, -, ly⟩ := (unhide Z2).all); obtain ⟨d0, d1, d2, d3, d4, g0, g1, g2, g3, g4, lt'⟩ := (unhide B3).all))
  exact ret_o Tryd.results13 rfl (unhide B3) rfl (unhide HB) (by omega) rfl
theorem rbt_ge_D (n k' n' : Int) (t t' : ByteArray) (k0 n0 k1 n1 : Int) (t0 t1 : ByteArray) (J10 : Ret 26 #[.agg (Vc k0 n0 t0)] (.agg (Vc 4 n t))) (J20 : Ret 26 #[.agg (Vc k1 n1 t1)] (.agg (Vc k' n' t'))) (e4 : (k' == 4) = false) : Ret 13 #[.string ⟨#[62, 61]⟩, .agg (Vc k0 n0 t0), .agg (Vc k1 n1 t1)] (.agg (Oc 0 0 ByteArray.empty ordT 1)) := by
  intro W
  have J1 := hide J10
  have J2 := hide J20
  unfold Vc at J1 J2 ⊢
  clear J10 J20
  obtain ⟨W2, hW2, b1, b2, b3, hb, hz⟩ := box_box_out W k0 n0 t0 k1 n1 t1
  obtain ⟨c0, c1, c2, -, -, -, lt⟩ := b1.all
  have B2 := hide b2
  have B3 := hide b3
  have HB := hide hb
  clear b1 b2 b3 hb hz
  go_enter Tryd.func13, Tryd.ntmps13
  go_wp2_with (first
    | (go_at_call 26
       refine (unhide J1 _).mono ?_
       clear J1
       rintro e w1 ⟨rfl, hb1⟩
       obtain ⟨W3, hW3, e1, e3, e4⟩ := new_box w1 4 n t
       have hb4 := Below.up hb1 e3
       (try have Z1 := hide ((unhide Z1).up hb4)); (try have Z2 := hide ((unhide Z2).up hb4)); have B2 := hide ((unhide B2).up hb4); have B3 := hide ((unhide B3).up hb4); have HB := hide (Below.up (unhide HB) hb4); clear hb4
       have Z1 := hide e1
       obtain ⟨x0, x1, x2, -, -, -, ly⟩ := (unhide B2).all
       (try obtain ⟨c0, c1, c2, -, -, -, lt⟩ := (unhide Z1).all); (try obtain ⟨x0, x1, x2, -, -, -, ly⟩ := (unhide Z2).all); obtain ⟨d0, d1, d2, d3, d4, g0, g1, g2, g3, g4, lt'⟩ := (unhide B3).all
       clear hb1 e1 e3 e4)
    | (go_at_call 26
       refine (unhide J2 _).mono ?_
       clear J2
       rintro e w1 ⟨rfl, hb1⟩
       obtain ⟨W3, hW3, e1, e3, e4⟩ := new_box w1 k' n' t'
       have hb4 := Below.up hb1 e3
       (try have Z1 := hide ((unhide Z1).up hb4)); (try have Z2 := hide ((unhide Z2).up hb4)); have B2 := hide ((unhide B2).up hb4); have B3 := hide ((unhide B3).up hb4); have HB := hide (Below.up (unhide HB) hb4); clear hb4
       have Z2 := hide e1
       obtain ⟨x0, x1, x2, -, -, -, ly⟩ := (unhide B2).all
       (try obtain ⟨c0, c1, c2, -, -, -, lt⟩ := (unhide Z1).all); (try obtain ⟨x0, x1, x2, -, -, -, ly⟩ := (unhide Z2).all); obtain ⟨d0, d1, d2, d3, d4, g0, g1, g2, g3, g4, lt'⟩ := (unhide B3).all
       clear hb1 e1 e3 e4)
    | (go_at_call 28; refine (rThrow_any ordT _).mono ?_; rintro e w4 ⟨rfl, hb4⟩; unfold Oc; (try have Z1 := hide ((unhide Z1).up hb4)); (try have Z2 := hide ((unhide Z2).up hb4)); have B2 := hide ((unhide B2).up hb4); have B3 := hide ((unhide B3).up hb4); have HB := hide (Below.up (unhide HB) hb4); clear hb4; (try obtain ⟨c0, c1, c2, -, -, -, lt⟩ := (unhide Z1).all); (try obtain ⟨x0, x1, x2, -, -, -, ly⟩ := (unhide Z2).all); obtain ⟨d0, d1, d2, d3, d4, g0, g1, g2, g3, g4, lt'⟩ := (unhide B3).all))
  exact ret_o Tryd.results13 rfl (unhide B3) rfl (unhide HB) (by omega) rfl
end Go.Proofs.YthjlhdldomfikaaDoor

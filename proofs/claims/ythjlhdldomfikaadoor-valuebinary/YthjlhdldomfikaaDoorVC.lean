/- ofNumbers: what is reckoned of two numbers, and what is thrown. -/
import Derived.Test.YthjlhdldomfikaaDoorVB
namespace Go.Proofs.YthjlhdldomfikaaDoor
set_option linter.unusedSimpArgs false
set_option linter.unusedVariables false
set_option maxRecDepth 100000
open Go.RowKit Go.Shelf

theorem ofNumbers_ok (g : FuncId) (hent : ∀ args w, (callFunc g args).run Tryd.prog w = .ok (.enter g args) w) (a c m : Int) (s t : ByteArray) (HG : Ret g #[.int .i64 a, .int .i64 c] (.tuple #[.int .i64 m, .bool true])) :
    Ret 33 #[.agg (Vc 3 a s), .agg (Vc 3 c t), .func (.func g) #[] #[]] (Tr 3 m ByteArray.empty ⟨#[]⟩ 0) := by
  intro W
  have H := hide HG
  clear HG
  unfold Vc
  obtain ⟨W2, hW2, b1, b2, b3, hb, hz⟩ := three_boxes W 3 a s 3 c t
  obtain ⟨c0, c1, c2, f0, f1, f2, lt⟩ := b1.all
  obtain ⟨x0, x1, x2, y0, y1, y2, ly⟩ := b2.all
  have B3 := hide b3
  have HB := hide hb
  have HZ := hide hz
  clear b1 b2 b3 hb hz
  go_enter Tryd.func33, Tryd.ntmps33
  go_wp2_with (first | (go_at_call 58; refine (number_any _ _).mono ?_; unfold Tr; rintro e w2 ⟨rfl, hb2⟩; unfold Vc; have hz := unhide HZ; have lt2 := hb1.size; have E3 := hide ((unhide B3).below (hb1.trans (hb2.mono lt2)) (by omega)); obtain ⟨d0, d1, d2, g0, g1, g2, lt'⟩ := (unhide E3).all) | (refine (unhide H _).mono ?_; rintro e w1 ⟨rfl, hb1⟩))
  exact ret_vsf Tryd.results33 rfl rfl rfl (unhide E3) rfl ((unhide HB).trans ((hb1.trans (hb2.mono lt2)).mono (by omega))) (by omega) rfl
theorem ofNumbers_inexact (g : FuncId) (hent : ∀ args w, (callFunc g args).run Tryd.prog w = .ok (.enter g args) w) (a c m : Int) (s t : ByteArray) (HG : Ret g #[.int .i64 a, .int .i64 c] (.tuple #[.int .i64 m, .bool false])) :
    Ret 33 #[.agg (Vc 3 a s), .agg (Vc 3 c t), .func (.func g) #[] #[]] (Tr 0 0 ByteArray.empty ⟨#[]⟩ 2) := by
  intro W
  have H := hide HG
  clear HG
  unfold Vc
  obtain ⟨W2, hW2, b1, b2, b3, hb, hz⟩ := three_boxes W 3 a s 3 c t
  obtain ⟨c0, c1, c2, f0, f1, f2, lt⟩ := b1.all
  obtain ⟨x0, x1, x2, y0, y1, y2, ly⟩ := b2.all
  have B3 := hide b3
  have HB := hide hb
  have HZ := hide hz
  clear b1 b2 b3 hb hz
  go_enter Tryd.func33, Tryd.ntmps33
  go_wp2_with (first | (go_at_call 62; refine (fail_any _ _).mono ?_; unfold Tr; rintro e w2 ⟨rfl, hb2⟩; unfold Vc; have hz := unhide HZ; have lt2 := hb1.size; have E3 := hide ((unhide B3).below (hb1.trans (hb2.mono lt2)) (by omega)); obtain ⟨d0, d1, d2, g0, g1, g2, lt'⟩ := (unhide E3).all) | (refine (unhide H _).mono ?_; rintro e w1 ⟨rfl, hb1⟩))
  exact ret_vsf Tryd.results33 rfl rfl rfl (unhide E3) rfl ((unhide HB).trans ((hb1.trans (hb2.mono lt2)).mono (by omega))) (by omega) rfl
theorem ofNumbers_no (k k' a c : Int) (s t : ByteArray) (r : Value) (h : (k != 3) = true ∨ (k != 3) = false ∧ (k' != 3) = true) :
    Ret 33 #[.agg (Vc k a s), .agg (Vc k' c t), r] (Tr 0 0 ByteArray.empty numT 1) := by
  intro W
  unfold Vc
  obtain ⟨W2, hW2, b1, b2, b3, hb, hz⟩ := three_boxes W k a s k' c t
  obtain ⟨c0, c1, c2, f0, f1, f2, lt⟩ := b1.all
  obtain ⟨x0, x1, x2, y0, y1, y2, ly⟩ := b2.all
  have B3 := hide b3
  have HB := hide hb
  have HZ := hide hz
  clear b1 b2 b3 hb hz
  rcases h with h | ⟨h, h'⟩
  all_goals
    go_enter Tryd.func33, Tryd.ntmps33
    go_wp2_with (go_at_call 57; refine (throw_any numT (by decide) _).mono ?_; unfold Tr; rintro e w1 ⟨rfl, hb1⟩; unfold Vc; have hz := unhide HZ; have E3 := hide ((unhide B3).below hb1 (by omega)); obtain ⟨d0, d1, d2, g0, g1, g2, lt'⟩ := (unhide E3).all)
    exact ret_vsf Tryd.results33 rfl rfl rfl (unhide E3) rfl ((unhide HB).trans (hb1.mono (by omega))) (by omega) rfl
end Go.Proofs.YthjlhdldomfikaaDoor

/- plus and ordered, of numbers and of what throws; cmp.Compare. -/
import Derived.Test.YthjlhdldomfikaaDoorVC
namespace Go.Proofs.YthjlhdldomfikaaDoor
set_option linter.unusedSimpArgs false
set_option linter.unusedVariables false
set_option maxRecDepth 100000
open Go.RowKit Go.Shelf

def cmpP (a c : Int) : Int := if a < c then -1 else if c < a then 1 else 0
theorem nan_any (a : Int) : Ret 79 #[.int .i64 a] (.bool false) := by
  intro W
  go_enter Tryd.func79, Tryd.ntmps79
  go_wp2
  go_ret
  exact ⟨rfl, Below.refl _ _⟩
theorem cmp_any (a c : Int) : Ret 67 #[.int .i64 a, .int .i64 c] (.int .i64 (cmpP a c)) := by
  intro W
  have HN := hide nan_any
  unfold cmpP
  by_cases h1 : a < c
  · rw [if_pos h1]
    go_enter Tryd.func67, Tryd.ntmps67
    go_wp2_with (first | (go_at_call_of 79 a; refine (unhide HN _ _).mono ?_; rintro e w1 ⟨rfl, hb1⟩) | (go_at_call_of 79 c; refine (unhide HN _ _).mono ?_; rintro e w2 ⟨rfl, hb2⟩))
    go_ret
    exact ⟨rfl, hb1.trans (hb2.mono hb1.size)⟩
  · rw [if_neg h1]
    by_cases h2 : c < a
    · rw [if_pos h2]
      go_enter Tryd.func67, Tryd.ntmps67
      go_wp2_with (first | (go_at_call_of 79 a; refine (unhide HN _ _).mono ?_; rintro e w1 ⟨rfl, hb1⟩) | (go_at_call_of 79 c; refine (unhide HN _ _).mono ?_; rintro e w2 ⟨rfl, hb2⟩))
      go_ret
      exact ⟨rfl, hb1.trans (hb2.mono hb1.size)⟩
    · rw [if_neg h2]
      go_enter Tryd.func67, Tryd.ntmps67
      go_wp2_with (first | (go_at_call_of 79 a; refine (unhide HN _ _).mono ?_; rintro e w1 ⟨rfl, hb1⟩) | (go_at_call_of 79 c; refine (unhide HN _ _).mono ?_; rintro e w2 ⟨rfl, hb2⟩))
      go_ret
      exact ⟨rfl, hb1.trans (hb2.mono hb1.size)⟩
theorem ask44 (o : Int) : Ret 44 #[.int .i64 o] (.bool (decide (o < 0))) := by
  intro W
  go_enter Tryd.func44, Tryd.ntmps44
  go_wp2
  go_ret
  exact ⟨rfl, Below.refl _ _⟩
theorem ask45 (o : Int) : Ret 45 #[.int .i64 o] (.bool (decide (o ≤ 0))) := by
  intro W
  go_enter Tryd.func45, Tryd.ntmps45
  go_wp2
  go_ret
  exact ⟨rfl, Below.refl _ _⟩
theorem ask46 (o : Int) : Ret 46 #[.int .i64 o] (.bool (decide (0 < o))) := by
  intro W
  go_enter Tryd.func46, Tryd.ntmps46
  go_wp2
  go_ret
  exact ⟨rfl, Below.refl _ _⟩
theorem ask47 (o : Int) : Ret 47 #[.int .i64 o] (.bool (decide (0 ≤ o))) := by
  intro W
  go_enter Tryd.func47, Tryd.ntmps47
  go_wp2
  go_ret
  exact ⟨rfl, Below.refl _ _⟩
theorem ordered_num (g : FuncId) (hent : ∀ args w, (callFunc g args).run Tryd.prog w = .ok (.enter g args) w) (a c o : Int) (b : Bool) (s t : ByteArray) (HC : Ret 67 #[.int .i64 a, .int .i64 c] (.int .i64 o)) (HG : Ret g #[.int .i64 o] (.bool b)) :
    Ret 43 #[.agg (Vc 3 a s), .agg (Vc 3 c t), .func (.func g) #[] #[]] (Tr 2 (bI b) ByteArray.empty ⟨#[]⟩ 0) := by
  intro W
  have H := hide HG
  have H2 := hide HC
  clear HG HC
  unfold Vc
  obtain ⟨W2, hW2, b1, b2, b3, hb, hz⟩ := three_boxes W 3 a s 3 c t
  obtain ⟨c0, c1, c2, f0, f1, f2, lt⟩ := b1.all
  obtain ⟨x0, x1, x2, y0, y1, y2, ly⟩ := b2.all
  have B3 := hide b3
  have HB := hide hb
  have HZ := hide hz
  clear b1 b2 b3 hb hz
  go_enter Tryd.func43, Tryd.ntmps43
  go_wp2_with (first | (go_at_call 67; refine (unhide H2 _).mono ?_; rintro e w1 ⟨rfl, hb1⟩) | (go_at_call 21; refine (truth_any _ _).mono ?_; unfold Tr; rintro e w2 ⟨rfl, hb2⟩; unfold Vc; have hz := unhide HZ; have lt2 := hb1.size; have lt3 := hb3.size; have E3 := hide ((unhide B3).below (hb1.trans ((hb3.mono lt2).trans (hb2.mono (by omega)))) (by omega)); obtain ⟨d0, d1, d2, g0, g1, g2, lt'⟩ := (unhide E3).all) | (refine (unhide H _).mono ?_; rintro e w3 ⟨rfl, hb3⟩))
  exact ret_vsf Tryd.results43 rfl rfl rfl (unhide E3) rfl ((unhide HB).trans ((hb1.trans ((hb3.mono lt2).trans (hb2.mono (by omega)))).mono (by omega))) (by omega) rfl
theorem ordered_txt (g : FuncId) (hent : ∀ args w, (callFunc g args).run Tryd.prog w = .ok (.enter g args) w) (a c o : Int) (b : Bool) (s t : ByteArray) (HC : Ret 68 #[.string s, .string t] (.int .i64 o)) (HG : Ret g #[.int .i64 o] (.bool b)) :
    Ret 43 #[.agg (Vc 4 a s), .agg (Vc 4 c t), .func (.func g) #[] #[]] (Tr 2 (bI b) ByteArray.empty ⟨#[]⟩ 0) := by
  intro W
  have H := hide HG
  have H2 := hide HC
  clear HG HC
  unfold Vc
  obtain ⟨W2, hW2, b1, b2, b3, hb, hz⟩ := three_boxes W 4 a s 4 c t
  obtain ⟨c0, c1, c2, f0, f1, f2, lt⟩ := b1.all
  obtain ⟨x0, x1, x2, y0, y1, y2, ly⟩ := b2.all
  have B3 := hide b3
  have HB := hide hb
  have HZ := hide hz
  clear b1 b2 b3 hb hz
  go_enter Tryd.func43, Tryd.ntmps43
  go_wp2_with (first | (go_at_call 68; refine (unhide H2 _).mono ?_; rintro e w1 ⟨rfl, hb1⟩) | (go_at_call 21; refine (truth_any _ _).mono ?_; unfold Tr; rintro e w2 ⟨rfl, hb2⟩; unfold Vc; have hz := unhide HZ; have lt2 := hb1.size; have lt3 := hb3.size; have E3 := hide ((unhide B3).below (hb1.trans ((hb3.mono lt2).trans (hb2.mono (by omega)))) (by omega)); obtain ⟨d0, d1, d2, g0, g1, g2, lt'⟩ := (unhide E3).all) | (refine (unhide H _).mono ?_; rintro e w3 ⟨rfl, hb3⟩))
  exact ret_vsf Tryd.results43 rfl rfl rfl (unhide E3) rfl ((unhide HB).trans ((hb1.trans ((hb3.mono lt2).trans (hb2.mono (by omega)))).mono (by omega))) (by omega) rfl
def ordT : ByteArray := ⟨#[84, 121, 112, 101, 69, 114, 114, 111, 114, 58, 32, 111, 114, 100, 101, 114]⟩
theorem ordered_no (k k' a c : Int) (s t : ByteArray) (r : Value) (h : (k == 3) = false ∨ (k == 3) = true ∧ (k' == 3) = false) (h' : (k == 4) = false ∨ (k == 4) = true ∧ (k' == 4) = false) :
    Ret 43 #[.agg (Vc k a s), .agg (Vc k' c t), r] (Tr 0 0 ByteArray.empty ordT 1) := by
  intro W
  unfold Vc
  obtain ⟨W2, hW2, b1, b2, b3, hb, hz⟩ := three_boxes W k a s k' c t
  obtain ⟨c0, c1, c2, f0, f1, f2, lt⟩ := b1.all
  obtain ⟨x0, x1, x2, y0, y1, y2, ly⟩ := b2.all
  have B3 := hide b3
  have HB := hide hb
  have HZ := hide hz
  clear b1 b2 b3 hb hz
  rcases h with h | ⟨h, h2⟩ <;> rcases h' with h' | ⟨h', h3⟩
  all_goals first
    | (exfalso; simp at h h'; omega)
    | (go_enter Tryd.func43, Tryd.ntmps43
       go_wp2_with (go_at_call 57; refine (throw_any ordT (by decide) _).mono ?_; unfold Tr; rintro e w1 ⟨rfl, hb1⟩; unfold Vc; have hz := unhide HZ; have E3 := hide ((unhide B3).below hb1 (by omega)); obtain ⟨d0, d1, d2, g0, g1, g2, lt'⟩ := (unhide E3).all)
       exact ret_vsf Tryd.results43 rfl rfl rfl (unhide E3) rfl ((unhide HB).trans (hb1.mono (by omega))) (by omega) rfl)
theorem plus_num (a c : Int) (s t : ByteArray) (r : R5) (HC : Ret 33 #[.agg (Vc 3 a s), .agg (Vc 3 c t), .func (.func 60) #[] #[]] r.tr) :
    Ret 32 #[.agg (Vc 3 a s), .agg (Vc 3 c t)] r.tr := by
  intro W
  have H := hide HC
  clear HC
  unfold R5.tr Tr Vc at H
  unfold Vc
  obtain ⟨W2, hW2, b1, b2, b3, hb, hz⟩ := three_boxes W 3 a s 3 c t
  obtain ⟨c0, c1, c2, f0, f1, f2, lt⟩ := b1.all
  obtain ⟨x0, x1, x2, y0, y1, y2, ly⟩ := b2.all
  have B3 := hide b3
  have HB := hide hb
  have HZ := hide hz
  clear b1 b2 b3 hb hz
  go_enter Tryd.func32, Tryd.ntmps32
  go_wp2_with (go_at_call 33; refine (unhide H _).mono ?_; rintro e w1 ⟨rfl, hb1⟩; have hz := unhide HZ; have E3 := hide ((unhide B3).below hb1 (by omega)); obtain ⟨d0, d1, d2, g0, g1, g2, lt'⟩ := (unhide E3).all)
  exact ret_vsf Tryd.results32 rfl rfl rfl (unhide E3) rfl ((unhide HB).trans (hb1.mono (by omega))) (by omega) rfl
end Go.Proofs.YthjlhdldomfikaaDoor

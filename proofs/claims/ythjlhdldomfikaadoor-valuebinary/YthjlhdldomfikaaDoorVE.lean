/- value.Binary, given what its callees answer. -/
import Derived.Deep.CutRange
import Derived.Deep.RegionWith
import Derived.Test.YthjlhdldomfikaaDoorVC
namespace Go.Proofs.YthjlhdldomfikaaDoor
set_option linter.unusedSimpArgs false
set_option linter.unusedVariables false
set_option maxRecDepth 100000
set_option maxHeartbeats 1000000
open Go.RowKit Go.Shelf

/-- Both boxes written over, in either order; the third one as it was. -/
def Three (w : World) (b : Nat) (k n : Int) (t : ByteArray) (k' n' : Int) (t' : ByteArray) : Prop := Bv w b k n t ∧ Bv w (b + 1) k' n' t' ∧ Bv w (b + 2) 0 0 ⟨#[]⟩
theorem Three.below {w w' : World} {b B : Nat} {k n k' n' : Int} {t t' : ByteArray} (h : Three w b k n t k' n' t') (hb : Below B w w') (hB : b + 2 < B) : Three w' b k n t k' n' t' := ⟨h.1.below hb (by omega), h.2.1.below hb (by omega), h.2.2.below hb hB⟩
theorem three_over1 {w : World} {b : Nat} {k n k' n' k0 n0 k1 n1 : Int} {t t' t0 t1 : ByteArray} (h : Three w b k n t k' n' t') : Three (put3 (put3 w b (.int .i64 k0) (.int .i64 n0) (.string t0)) (b + 1) (.int .i64 k1) (.int .i64 n1) (.string t1)) b k0 n0 t0 k1 n1 t1 :=
  ⟨Bx.puts_ne (Bx.puts h.1 _ _ _) (by omega) _ _ _, Bx.puts (Bx.puts_ne h.2.1 (by omega) _ _ _) _ _ _, Bx.puts_ne (Bx.puts_ne h.2.2 (by omega) _ _ _) (by omega) _ _ _⟩
theorem three_over2 {w : World} {b : Nat} {k n k' n' k0 n0 k1 n1 : Int} {t t' t0 t1 : ByteArray} (h : Three w b k n t k' n' t') : Three (put3 (put3 w (b + 1) (.int .i64 k1) (.int .i64 n1) (.string t1)) b (.int .i64 k0) (.int .i64 n0) (.string t0)) b k0 n0 t0 k1 n1 t1 :=
  ⟨Bx.puts (Bx.puts_ne h.1 (by omega) _ _ _) _ _ _, Bx.puts_ne (Bx.puts h.2.1 _ _ _) (by omega) _ _ _, Bx.puts_ne (Bx.puts_ne h.2.2 (by omega) _ _ _) (by omega) _ _ _⟩
/-- Are two values equal, cell by cell? -/
def eqV (k n : Int) (t : ByteArray) (k' n' : Int) (t' : ByteArray) : Bool := decide (k = k') && (decide (n = n') && decide (t.toList = t'.toList))
theorem bin_gen (op : ByteArray) (ka na kb nb ka' na' kb' nb' : Int) (ta tb ta' tb' : ByteArray) (HA : Ret 20 #[.agg (Vc ka na ta)] (.agg (Vc ka' na' ta'))) (HB : Ret 20 #[.agg (Vc kb nb tb)] (.agg (Vc kb' nb' tb'))) (r : R5)
    (h0 : op = ⟨#[61, 61, 61]⟩ → r = ⟨2, bI (eqV ka' na' ta' kb' nb' tb'), ByteArray.empty, ⟨#[]⟩, 0⟩)
    (h1 : op = ⟨#[33, 61, 61]⟩ → r = ⟨2, bI (!eqV ka' na' ta' kb' nb' tb'), ByteArray.empty, ⟨#[]⟩, 0⟩)
    (h2 : op = ⟨#[43]⟩ → Ret 32 #[.agg (Vc ka' na' ta'), .agg (Vc kb' nb' tb')] r.tr)
    (h3 : op = ⟨#[45]⟩ → Ret 33 #[.agg (Vc ka' na' ta'), .agg (Vc kb' nb' tb'), .func (.func 34) #[] #[]] r.tr)
    (h4 : op = ⟨#[42]⟩ → Ret 33 #[.agg (Vc ka' na' ta'), .agg (Vc kb' nb' tb'), .func (.func 35) #[] #[]] r.tr)
    (h5 : op = ⟨#[37]⟩ → Ret 33 #[.agg (Vc ka' na' ta'), .agg (Vc kb' nb' tb'), .func (.func 36) #[] #[]] r.tr)
    (h6 : op = ⟨#[38]⟩ → Ret 33 #[.agg (Vc ka' na' ta'), .agg (Vc kb' nb' tb'), .func (.func 37) #[] #[]] r.tr)
    (h7 : op = ⟨#[124]⟩ → Ret 33 #[.agg (Vc ka' na' ta'), .agg (Vc kb' nb' tb'), .func (.func 38) #[] #[]] r.tr)
    (h8 : op = ⟨#[94]⟩ → Ret 33 #[.agg (Vc ka' na' ta'), .agg (Vc kb' nb' tb'), .func (.func 39) #[] #[]] r.tr)
    (h9 : op = ⟨#[60, 60]⟩ → Ret 33 #[.agg (Vc ka' na' ta'), .agg (Vc kb' nb' tb'), .func (.func 40) #[] #[]] r.tr)
    (h10 : op = ⟨#[62, 62]⟩ → Ret 33 #[.agg (Vc ka' na' ta'), .agg (Vc kb' nb' tb'), .func (.func 41) #[] #[]] r.tr)
    (h11 : op = ⟨#[62, 62, 62]⟩ → Ret 33 #[.agg (Vc ka' na' ta'), .agg (Vc kb' nb' tb'), .func (.func 42) #[] #[]] r.tr)
    (h12 : op = ⟨#[60]⟩ → Ret 43 #[.agg (Vc ka' na' ta'), .agg (Vc kb' nb' tb'), .func (.func 44) #[] #[]] r.tr)
    (h13 : op = ⟨#[60, 61]⟩ → Ret 43 #[.agg (Vc ka' na' ta'), .agg (Vc kb' nb' tb'), .func (.func 45) #[] #[]] r.tr)
    (h14 : op = ⟨#[62]⟩ → Ret 43 #[.agg (Vc ka' na' ta'), .agg (Vc kb' nb' tb'), .func (.func 46) #[] #[]] r.tr)
    (h15 : op = ⟨#[62, 61]⟩ → Ret 43 #[.agg (Vc ka' na' ta'), .agg (Vc kb' nb' tb'), .func (.func 47) #[] #[]] r.tr)
    (hn : op ≠ ⟨#[61, 61, 61]⟩ → op ≠ ⟨#[33, 61, 61]⟩ → op ≠ ⟨#[43]⟩ → op ≠ ⟨#[45]⟩ → op ≠ ⟨#[42]⟩ → op ≠ ⟨#[37]⟩ → op ≠ ⟨#[38]⟩ → op ≠ ⟨#[124]⟩ → op ≠ ⟨#[94]⟩ → op ≠ ⟨#[60, 60]⟩ → op ≠ ⟨#[62, 62]⟩ → op ≠ ⟨#[62, 62, 62]⟩ → op ≠ ⟨#[60]⟩ → op ≠ ⟨#[60, 61]⟩ → op ≠ ⟨#[62]⟩ → op ≠ ⟨#[62, 61]⟩ → r = ⟨0, 0, ByteArray.empty, ⟨#[]⟩, 0⟩) :
    Ret 12 #[.string op, .agg (Vc ka na ta), .agg (Vc kb nb tb)] r.tr := by
  intro W
  have HA' := hide HA
  have HB' := hide HB
  have H0 := hide h0
  have H1 := hide h1
  have H2 := hide h2
  have H3 := hide h3
  have H4 := hide h4
  have H5 := hide h5
  have H6 := hide h6
  have H7 := hide h7
  have H8 := hide h8
  have H9 := hide h9
  have H10 := hide h10
  have H11 := hide h11
  have H12 := hide h12
  have H13 := hide h13
  have H14 := hide h14
  have H15 := hide h15
  have H16 := hide hn
  clear HA HB h0 h1 h2 h3 h4 h5 h6 h7 h8 h9 h10 h11 h12 h13 h14 h15 hn
  unfold Vc at HA' HB' ⊢
  obtain ⟨W2, hW2, b1, b2, b3, hb, hz⟩ := three_boxes W ka na ta kb nb tb
  have T2 : Hid (Three W2 W.heap.size ka na ta kb nb tb) := ⟨b1, b2, b3⟩
  obtain ⟨c0, c1, c2, f0, f1, f2, lt⟩ := b1.all
  obtain ⟨x0, x1, x2, y0, y1, y2, ly⟩ := b2.all
  have HB := hide hb
  have HZ := hide hz
  clear b1 b2 b3 hb hz
  go_enter Tryd.func12, Tryd.ntmps12
  go_upto_region 2 with fail
  go_cut [] from 9 to 12 (fun wx => Three wx W.heap.size ka' na' ta' kb' nb' tb' ∧ Below W.heap.size W wx)
  case first =>
    go_region_with (first
      | (go_at_call_of 20 na
         refine (unhide HA' _).mono ?_
         rintro e wa ⟨rfl, hba⟩
         have h1a : Below W2.heap.size W2 wa := (by first | exact hba | exact ((Below.refl _ W2).drew).trans (hba.mono (by simp)) | exact h1b.trans (hba.mono h1b.size))
         have Ta := hide ((unhide T2).below h1a (by have := unhide HZ; omega))
         obtain ⟨c0, c1, c2, f0, f1, f2, lt⟩ := (unhide Ta).1.all
         obtain ⟨x0, x1, x2, y0, y1, y2, ly⟩ := (unhide Ta).2.1.all
         clear hba)
      | (go_at_call_of 20 nb
         refine (unhide HB' _).mono ?_
         rintro e wb ⟨rfl, hbb⟩
         have h1b : Below W2.heap.size W2 wb := (by first | exact hbb | exact ((Below.refl _ W2).drew).trans (hbb.mono (by simp)) | exact h1a.trans (hbb.mono h1a.size))
         have Tb := hide ((unhide T2).below h1b (by have := unhide HZ; omega))
         obtain ⟨c0, c1, c2, f0, f1, f2, lt⟩ := (unhide Tb).1.all
         obtain ⟨x0, x1, x2, y0, y1, y2, ly⟩ := (unhide Tb).2.1.all
         clear hbb))
    all_goals (go_wp2_with fail; go_meet; case rel => (first
          | exact ⟨three_over1 (unhide Tb), below_put3 (below_put3 ((unhide HB).trans (h1b.mono (by have := unhide HZ; omega))) (by omega) _ _ _) (by omega) _ _ _⟩
          | exact ⟨three_over2 (unhide Tb), below_put3 (below_put3 ((unhide HB).trans (h1b.mono (by have := unhide HZ; omega))) (by omega) _ _ _) (by omega) _ _ _⟩
          | exact ⟨three_over1 (unhide Ta), below_put3 (below_put3 ((unhide HB).trans (h1a.mono (by have := unhide HZ; omega))) (by omega) _ _ _) (by omega) _ _ _⟩
          | exact ⟨three_over2 (unhide Ta), below_put3 (below_put3 ((unhide HB).trans (h1a.mono (by have := unhide HZ; omega))) (by omega) _ _ _) (by omega) _ _ _⟩))
  case rest =>
    obtain ⟨T3, hB3⟩ := hcut
    have s3 := hB3.size
    have T3' := hide T3
    have HB3 := hide hB3
    obtain ⟨c0, c1, c2, f0, f1, f2, lt⟩ := T3.1.all
    obtain ⟨x0, x1, x2, y0, y1, y2, ly⟩ := T3.2.1.all
    have lz := Bx.lt T3.2.2
    clear T3 hB3
    by_cases e0 : op = ⟨#[61, 61, 61]⟩
    · obtain rfl := unhide H0 e0
      subst e0
      clear H1 H2 H3 H4 H5 H6 H7 H8 H9 H10 H11 H12 H13 H14 H15 H16
      go_wp2_with (go_at_call 21; refine (truth_any _ _).mono ?_; unfold Tr; rintro e w4 ⟨rfl, hb4⟩; unfold Vc; have X4 := hide ((unhide T3').2.2.below hb4 (by omega)); obtain ⟨d0, d1, d2, g0, g1, g2, lt'⟩ := (unhide X4).all)
      all_goals (first
        | (have q : eqV ka' na' ta' kb' nb' tb' = true := (by simp [eqV, *]); exact ret_vsf Tryd.results12 rfl rfl rfl (unhide X4) (by show _ = Vc 2 (bI (eqV ka' na' ta' kb' nb' tb')) ByteArray.empty; rw [q]; rfl) ((unhide HB3).trans (hb4.mono (by omega))) (by omega) rfl)
        | (have q : eqV ka' na' ta' kb' nb' tb' = false := (by simp [eqV, *]); exact ret_vsf Tryd.results12 rfl rfl rfl (unhide X4) (by show _ = Vc 2 (bI (eqV ka' na' ta' kb' nb' tb')) ByteArray.empty; rw [q]; rfl) ((unhide HB3).trans (hb4.mono (by omega))) (by omega) rfl))
    have n0 := op_ne e0
    by_cases e1 : op = ⟨#[33, 61, 61]⟩
    · obtain rfl := unhide H1 e1
      subst e1
      clear H0 H2 H3 H4 H5 H6 H7 H8 H9 H10 H11 H12 H13 H14 H15 H16
      go_wp2_with (go_at_call 21; refine (truth_any _ _).mono ?_; unfold Tr; rintro e w4 ⟨rfl, hb4⟩; unfold Vc; have X4 := hide ((unhide T3').2.2.below hb4 (by omega)); obtain ⟨d0, d1, d2, g0, g1, g2, lt'⟩ := (unhide X4).all)
      all_goals (first
        | (have q : eqV ka' na' ta' kb' nb' tb' = true := (by simp [eqV, *]); exact ret_vsf Tryd.results12 rfl rfl rfl (unhide X4) (by show _ = Vc 2 (bI (!eqV ka' na' ta' kb' nb' tb')) ByteArray.empty; rw [q]; rfl) ((unhide HB3).trans (hb4.mono (by omega))) (by omega) rfl)
        | (have q : eqV ka' na' ta' kb' nb' tb' = false := (by simp [eqV, *]); exact ret_vsf Tryd.results12 rfl rfl rfl (unhide X4) (by show _ = Vc 2 (bI (!eqV ka' na' ta' kb' nb' tb')) ByteArray.empty; rw [q]; rfl) ((unhide HB3).trans (hb4.mono (by omega))) (by omega) rfl))
    have n1 := op_ne e1
    by_cases e2 : op = ⟨#[43]⟩
    · have HC := hide (unhide H2 e2)
      unfold R5.tr Tr Vc at HC
      subst e2
      clear H0 H1 H2 H3 H4 H5 H6 H7 H8 H9 H10 H11 H12 H13 H14 H15 H16
      go_wp2_with (go_at_call 32; refine (unhide HC _).mono ?_; rintro e w4 ⟨rfl, hb4⟩; have X4 := hide ((unhide T3').2.2.below hb4 (by omega)); obtain ⟨d0, d1, d2, g0, g1, g2, lt'⟩ := (unhide X4).all)
      exact ret_vsf Tryd.results12 rfl rfl rfl (unhide X4) rfl ((unhide HB3).trans (hb4.mono (by omega))) (by omega) rfl
    have n2 := op_ne e2
    by_cases e3 : op = ⟨#[45]⟩
    · have HC := hide (unhide H3 e3)
      unfold R5.tr Tr Vc at HC
      subst e3
      clear H0 H1 H2 H3 H4 H5 H6 H7 H8 H9 H10 H11 H12 H13 H14 H15 H16
      go_wp2_with (go_at_call 33; refine (unhide HC _).mono ?_; rintro e w4 ⟨rfl, hb4⟩; have X4 := hide ((unhide T3').2.2.below hb4 (by omega)); obtain ⟨d0, d1, d2, g0, g1, g2, lt'⟩ := (unhide X4).all)
      exact ret_vsf Tryd.results12 rfl rfl rfl (unhide X4) rfl ((unhide HB3).trans (hb4.mono (by omega))) (by omega) rfl
    have n3 := op_ne e3
    by_cases e4 : op = ⟨#[42]⟩
    · have HC := hide (unhide H4 e4)
      unfold R5.tr Tr Vc at HC
      subst e4
      clear H0 H1 H2 H3 H4 H5 H6 H7 H8 H9 H10 H11 H12 H13 H14 H15 H16
      go_wp2_with (go_at_call 33; refine (unhide HC _).mono ?_; rintro e w4 ⟨rfl, hb4⟩; have X4 := hide ((unhide T3').2.2.below hb4 (by omega)); obtain ⟨d0, d1, d2, g0, g1, g2, lt'⟩ := (unhide X4).all)
      exact ret_vsf Tryd.results12 rfl rfl rfl (unhide X4) rfl ((unhide HB3).trans (hb4.mono (by omega))) (by omega) rfl
    have n4 := op_ne e4
    by_cases e5 : op = ⟨#[37]⟩
    · have HC := hide (unhide H5 e5)
      unfold R5.tr Tr Vc at HC
      subst e5
      clear H0 H1 H2 H3 H4 H5 H6 H7 H8 H9 H10 H11 H12 H13 H14 H15 H16
      go_wp2_with (go_at_call 33; refine (unhide HC _).mono ?_; rintro e w4 ⟨rfl, hb4⟩; have X4 := hide ((unhide T3').2.2.below hb4 (by omega)); obtain ⟨d0, d1, d2, g0, g1, g2, lt'⟩ := (unhide X4).all)
      exact ret_vsf Tryd.results12 rfl rfl rfl (unhide X4) rfl ((unhide HB3).trans (hb4.mono (by omega))) (by omega) rfl
    have n5 := op_ne e5
    by_cases e6 : op = ⟨#[38]⟩
    · have HC := hide (unhide H6 e6)
      unfold R5.tr Tr Vc at HC
      subst e6
      clear H0 H1 H2 H3 H4 H5 H6 H7 H8 H9 H10 H11 H12 H13 H14 H15 H16
      go_wp2_with (go_at_call 33; refine (unhide HC _).mono ?_; rintro e w4 ⟨rfl, hb4⟩; have X4 := hide ((unhide T3').2.2.below hb4 (by omega)); obtain ⟨d0, d1, d2, g0, g1, g2, lt'⟩ := (unhide X4).all)
      exact ret_vsf Tryd.results12 rfl rfl rfl (unhide X4) rfl ((unhide HB3).trans (hb4.mono (by omega))) (by omega) rfl
    have n6 := op_ne e6
    by_cases e7 : op = ⟨#[124]⟩
    · have HC := hide (unhide H7 e7)
      unfold R5.tr Tr Vc at HC
      subst e7
      clear H0 H1 H2 H3 H4 H5 H6 H7 H8 H9 H10 H11 H12 H13 H14 H15 H16
      go_wp2_with (go_at_call 33; refine (unhide HC _).mono ?_; rintro e w4 ⟨rfl, hb4⟩; have X4 := hide ((unhide T3').2.2.below hb4 (by omega)); obtain ⟨d0, d1, d2, g0, g1, g2, lt'⟩ := (unhide X4).all)
      exact ret_vsf Tryd.results12 rfl rfl rfl (unhide X4) rfl ((unhide HB3).trans (hb4.mono (by omega))) (by omega) rfl
    have n7 := op_ne e7
    by_cases e8 : op = ⟨#[94]⟩
    · have HC := hide (unhide H8 e8)
      unfold R5.tr Tr Vc at HC
      subst e8
      clear H0 H1 H2 H3 H4 H5 H6 H7 H8 H9 H10 H11 H12 H13 H14 H15 H16
      go_wp2_with (go_at_call 33; refine (unhide HC _).mono ?_; rintro e w4 ⟨rfl, hb4⟩; have X4 := hide ((unhide T3').2.2.below hb4 (by omega)); obtain ⟨d0, d1, d2, g0, g1, g2, lt'⟩ := (unhide X4).all)
      exact ret_vsf Tryd.results12 rfl rfl rfl (unhide X4) rfl ((unhide HB3).trans (hb4.mono (by omega))) (by omega) rfl
    have n8 := op_ne e8
    by_cases e9 : op = ⟨#[60, 60]⟩
    · have HC := hide (unhide H9 e9)
      unfold R5.tr Tr Vc at HC
      subst e9
      clear H0 H1 H2 H3 H4 H5 H6 H7 H8 H9 H10 H11 H12 H13 H14 H15 H16
      go_wp2_with (go_at_call 33; refine (unhide HC _).mono ?_; rintro e w4 ⟨rfl, hb4⟩; have X4 := hide ((unhide T3').2.2.below hb4 (by omega)); obtain ⟨d0, d1, d2, g0, g1, g2, lt'⟩ := (unhide X4).all)
      exact ret_vsf Tryd.results12 rfl rfl rfl (unhide X4) rfl ((unhide HB3).trans (hb4.mono (by omega))) (by omega) rfl
    have n9 := op_ne e9
    by_cases e10 : op = ⟨#[62, 62]⟩
    · have HC := hide (unhide H10 e10)
      unfold R5.tr Tr Vc at HC
      subst e10
      clear H0 H1 H2 H3 H4 H5 H6 H7 H8 H9 H10 H11 H12 H13 H14 H15 H16
      go_wp2_with (go_at_call 33; refine (unhide HC _).mono ?_; rintro e w4 ⟨rfl, hb4⟩; have X4 := hide ((unhide T3').2.2.below hb4 (by omega)); obtain ⟨d0, d1, d2, g0, g1, g2, lt'⟩ := (unhide X4).all)
      exact ret_vsf Tryd.results12 rfl rfl rfl (unhide X4) rfl ((unhide HB3).trans (hb4.mono (by omega))) (by omega) rfl
    have n10 := op_ne e10
    by_cases e11 : op = ⟨#[62, 62, 62]⟩
    · have HC := hide (unhide H11 e11)
      unfold R5.tr Tr Vc at HC
      subst e11
      clear H0 H1 H2 H3 H4 H5 H6 H7 H8 H9 H10 H11 H12 H13 H14 H15 H16
      go_wp2_with (go_at_call 33; refine (unhide HC _).mono ?_; rintro e w4 ⟨rfl, hb4⟩; have X4 := hide ((unhide T3').2.2.below hb4 (by omega)); obtain ⟨d0, d1, d2, g0, g1, g2, lt'⟩ := (unhide X4).all)
      exact ret_vsf Tryd.results12 rfl rfl rfl (unhide X4) rfl ((unhide HB3).trans (hb4.mono (by omega))) (by omega) rfl
    have n11 := op_ne e11
    by_cases e12 : op = ⟨#[60]⟩
    · have HC := hide (unhide H12 e12)
      unfold R5.tr Tr Vc at HC
      subst e12
      clear H0 H1 H2 H3 H4 H5 H6 H7 H8 H9 H10 H11 H12 H13 H14 H15 H16
      go_wp2_with (go_at_call 43; refine (unhide HC _).mono ?_; rintro e w4 ⟨rfl, hb4⟩; have X4 := hide ((unhide T3').2.2.below hb4 (by omega)); obtain ⟨d0, d1, d2, g0, g1, g2, lt'⟩ := (unhide X4).all)
      exact ret_vsf Tryd.results12 rfl rfl rfl (unhide X4) rfl ((unhide HB3).trans (hb4.mono (by omega))) (by omega) rfl
    have n12 := op_ne e12
    by_cases e13 : op = ⟨#[60, 61]⟩
    · have HC := hide (unhide H13 e13)
      unfold R5.tr Tr Vc at HC
      subst e13
      clear H0 H1 H2 H3 H4 H5 H6 H7 H8 H9 H10 H11 H12 H13 H14 H15 H16
      go_wp2_with (go_at_call 43; refine (unhide HC _).mono ?_; rintro e w4 ⟨rfl, hb4⟩; have X4 := hide ((unhide T3').2.2.below hb4 (by omega)); obtain ⟨d0, d1, d2, g0, g1, g2, lt'⟩ := (unhide X4).all)
      exact ret_vsf Tryd.results12 rfl rfl rfl (unhide X4) rfl ((unhide HB3).trans (hb4.mono (by omega))) (by omega) rfl
    have n13 := op_ne e13
    by_cases e14 : op = ⟨#[62]⟩
    · have HC := hide (unhide H14 e14)
      unfold R5.tr Tr Vc at HC
      subst e14
      clear H0 H1 H2 H3 H4 H5 H6 H7 H8 H9 H10 H11 H12 H13 H14 H15 H16
      go_wp2_with (go_at_call 43; refine (unhide HC _).mono ?_; rintro e w4 ⟨rfl, hb4⟩; have X4 := hide ((unhide T3').2.2.below hb4 (by omega)); obtain ⟨d0, d1, d2, g0, g1, g2, lt'⟩ := (unhide X4).all)
      exact ret_vsf Tryd.results12 rfl rfl rfl (unhide X4) rfl ((unhide HB3).trans (hb4.mono (by omega))) (by omega) rfl
    have n14 := op_ne e14
    by_cases e15 : op = ⟨#[62, 61]⟩
    · have HC := hide (unhide H15 e15)
      unfold R5.tr Tr Vc at HC
      subst e15
      clear H0 H1 H2 H3 H4 H5 H6 H7 H8 H9 H10 H11 H12 H13 H14 H15 H16
      go_wp2_with (go_at_call 43; refine (unhide HC _).mono ?_; rintro e w4 ⟨rfl, hb4⟩; have X4 := hide ((unhide T3').2.2.below hb4 (by omega)); obtain ⟨d0, d1, d2, g0, g1, g2, lt'⟩ := (unhide X4).all)
      exact ret_vsf Tryd.results12 rfl rfl rfl (unhide X4) rfl ((unhide HB3).trans (hb4.mono (by omega))) (by omega) rfl
    have n15 := op_ne e15
    obtain rfl := unhide H16 e0 e1 e2 e3 e4 e5 e6 e7 e8 e9 e10 e11 e12 e13 e14 e15
    clear H0 H1 H2 H3 H4 H5 H6 H7 H8 H9 H10 H11 H12 H13 H14 H15 H16 e0 e1 e2 e3 e4 e5 e6 e7 e8 e9 e10 e11 e12 e13 e14 e15
    go_wp2_with (go_at_call 25; refine (nothing_any _).mono ?_; unfold Tr; rintro e w4 ⟨rfl, hb4⟩; unfold Vc; have X4 := hide ((unhide T3').2.2.below hb4 (by omega)); obtain ⟨d0, d1, d2, g0, g1, g2, lt'⟩ := (unhide X4).all)
    exact ret_vsf Tryd.results12 rfl rfl rfl (unhide X4) rfl ((unhide HB3).trans (hb4.mono (by omega))) (by omega) rfl
end Go.Proofs.YthjlhdldomfikaaDoor

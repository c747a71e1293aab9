/- value.Unary at each sign. -/
import Derived.Test.YthjlhdldomfikaaDoorV3
namespace Go.Proofs.YthjlhdldomfikaaDoor
set_option linter.unusedSimpArgs false
set_option linter.unusedVariables false
set_option maxRecDepth 100000
open Go.RowKit Go.Shelf

/-- A box that is written over. -/
theorem over (w : World) (b : Nat) (k n k' n' : Int) (t t' : ByteArray) (h : Bv w b k n t) : ∃ W3, ((w.setCell ⟨b, 0, none⟩ (.int .i64 k')).setCell ⟨b, 1, none⟩ (.int .i64 n')).setCell ⟨b, 2, none⟩ (.string t') = W3 ∧ Bv W3 b k' n' t' ∧ (∀ B a, Below B a w → B ≤ b → Below B a W3) ∧ (∀ c k n t, Bv w c k n t → c ≠ b → Bv W3 c k n t) ∧ W3.heap.size = w.heap.size :=
  ⟨_, rfl, Bx.puts h _ _ _, fun B a hb hB => below_put3 hb hB _ _ _, fun c k n t hc hne => Bx.puts_ne hc hne _ _ _, size_put3 _ _ _ _ _⟩
theorem un_other (op : ByteArray) (k n k' n' : Int) (t t' : ByteArray) (H : Ret 20 #[.agg (Vc k n t)] (.agg (Vc k' n' t'))) (h1 : (op.toList == [33]) = false) (h2 : (op.toList == [45]) = false) (h3 : (op.toList == [126]) = false) :
    Ret 10 #[.string op, .agg (Vc k n t)] (Tr 0 0 ByteArray.empty ⟨#[]⟩ 0) := by
  intro W
  have HS := hide H
  clear H
  unfold Vc at HS ⊢
  obtain ⟨W2, hW2, b1, b2, hb, hz⟩ := two_boxes W k n t
  obtain ⟨c0, c1, c2, f0, f1, f2, lt⟩ := b1.all
  have B1 := hide b1
  have B2 := hide b2
  have HB := hide hb
  have HZ := hide hz
  clear b1 b2 hb hz
  go_enter Tryd.func10, Tryd.ntmps10
  go_wp2_with (first | (go_at_call 20; refine (unhide HS _).mono ?_; rintro e w1 ⟨rfl, hb1⟩; have hz := unhide HZ; have E1 := hide ((unhide B1).below hb1 (by omega)); have E2 := hide ((unhide B2).below hb1 (by omega)); obtain ⟨c0, c1, c2, f0, f1, f2, lt⟩ := (unhide E1).all; obtain ⟨W3, hW3, e1, e2, e3, e4⟩ := over w1 W.heap.size k n k' n' t t' (unhide E1); have s1 := hb1.size; have X2 := hide (e3 _ _ _ _ (unhide E2) (by omega)); have HB3 := hide (e2 _ _ ((unhide HB).trans (hb1.mono (by omega))) (by omega)); have HZ3 := hide e4; obtain ⟨x0, x1, x2, y0, y1, y2, ly⟩ := e1.all; clear e1 e2 e3 e4) | (go_at_call 25; refine (nothing_any _).mono ?_; unfold Tr; rintro e w4 ⟨rfl, hb4⟩; unfold Vc; have hz3 := unhide HZ3; have X4 := hide ((unhide X2).below hb4 (by omega)); obtain ⟨d0, d1, d2, g0, g1, g2, lt'⟩ := (unhide X4).all))
  exact ret_vsf Tryd.results10 rfl rfl rfl (unhide X4) rfl ((unhide HB3).trans (hb4.mono (by omega))) (by omega) rfl
theorem un_not (k n k' n' : Int) (t t' : ByteArray) (H : Ret 20 #[.agg (Vc k n t)] (.agg (Vc k' n' t'))) (b : Bool) (HT : Ret 14 #[.agg (Vc k' n' t')] (.bool b)) :
    Ret 10 #[.string ⟨#[33]⟩, .agg (Vc k n t)] (Tr 2 (bI (!b)) ByteArray.empty ⟨#[]⟩ 0) := by
  intro W
  have HS := hide H
  have HT' := hide HT
  clear H HT
  unfold Vc at HS HT' ⊢
  obtain ⟨W2, hW2, b1, b2, hb, hz⟩ := two_boxes W k n t
  obtain ⟨c0, c1, c2, f0, f1, f2, lt⟩ := b1.all
  have B1 := hide b1
  have B2 := hide b2
  have HB := hide hb
  have HZ := hide hz
  clear b1 b2 hb hz
  go_enter Tryd.func10, Tryd.ntmps10
  go_wp2_with (first | (go_at_call 20; refine (unhide HS _).mono ?_; rintro e w1 ⟨rfl, hb1⟩; have hz := unhide HZ; have E1 := hide ((unhide B1).below hb1 (by omega)); have E2 := hide ((unhide B2).below hb1 (by omega)); obtain ⟨c0, c1, c2, f0, f1, f2, lt⟩ := (unhide E1).all; obtain ⟨W3, hW3, e1, e2, e3, e4⟩ := over w1 W.heap.size k n k' n' t t' (unhide E1); have s1 := hb1.size; have X2 := hide (e3 _ _ _ _ (unhide E2) (by omega)); have HB3 := hide (e2 _ _ ((unhide HB).trans (hb1.mono (by omega))) (by omega)); have HZ3 := hide e4; obtain ⟨x0, x1, x2, y0, y1, y2, ly⟩ := e1.all; clear e1 e2 e3 e4) | (go_at_call 14; refine (unhide HT' _).mono ?_; rintro e w5 ⟨rfl, hb5⟩; have HB5 := hide hb5) | (go_at_call 21; refine (truth_any _ _).mono ?_; unfold Tr; rintro e w4 ⟨rfl, hb4⟩; unfold Vc; have hz3 := unhide HZ3; have s5 := (unhide HB5).size; have X5 := hide ((unhide X2).below (unhide HB5) (by omega)); have X4 := hide ((unhide X5).below hb4 (by omega)); obtain ⟨d0, d1, d2, g0, g1, g2, lt'⟩ := (unhide X4).all))
  exact ret_vsf Tryd.results10 rfl rfl rfl (unhide X4) rfl ((unhide HB3).trans (((unhide HB5).mono (by omega)).trans (hb4.mono (by omega)))) (by omega) rfl
end Go.Proofs.YthjlhdldomfikaaDoor

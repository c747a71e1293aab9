/- The reference: Unary. -/
import Derived.Test.YthjlhdldomfikaaDoorV7
namespace Go.Proofs.YthjlhdldomfikaaDoor
set_option linter.unusedSimpArgs false
set_option linter.unusedVariables false
set_option maxRecDepth 100000
open Go.RowKit Go.Shelf

theorem run_other (op : ByteArray) (k n k' n' : Int) (t t' : ByteArray) (H : Ret 26 #[.agg (Vc k n t)] (.agg (Vc k' n' t'))) (h1 : (op.toList == [33]) = false) (h2 : (op.toList == [45]) = false) (h3 : (op.toList == [126]) = false) :
    Ret 11 #[.string op, .agg (Vc k n t)] (.agg (Oc 0 0 ByteArray.empty ⟨#[]⟩ 0)) := by
  intro W
  have HS := hide H
  clear H
  unfold Vc at HS ⊢
  obtain ⟨W2, hW2, b1, b2, hb, hz⟩ := box_out W k n t
  obtain ⟨c0, c1, c2, f0, f1, f2, lt⟩ := b1.all
  have B2 := hide b2
  have HB := hide hb
  have HZ := hide hz
  clear b1 b2 hb hz
  go_enter Tryd.func11, Tryd.ntmps11
  go_wp2_with (go_at_call 26; refine (unhide HS _).mono ?_; rintro e w1 ⟨rfl, hb1⟩; have hz := unhide HZ; have s1 := hb1.size; obtain ⟨W3, hW3, e1, e3, e4⟩ := new_box w1 k' n' t'; have HB3 := hide (((unhide HB).trans (hb1.mono (by omega))).trans (e3.mono (by omega))); have X2 := hide ((unhide B2).below (hb1.trans (e3.mono (by omega))) (by omega)); obtain ⟨x0, x1, x2, y0, y1, y2, ly⟩ := e1.all; obtain ⟨d0, d1, d2, d3, d4, g0, g1, g2, g3, g4, lt'⟩ := (unhide X2).all; clear e1 e3 e4)
  exact ret_o Tryd.results11 rfl (unhide X2) rfl (unhide HB3) (by omega) rfl
theorem run_not (b : Bool) (k n k' n' : Int) (t t' : ByteArray) (H : Ret 26 #[.agg (Vc k n t)] (.agg (Vc k' n' t'))) (HT : Ret 15 #[.agg (Vc k' n' t')] (.bool b)) :
    Ret 11 #[.string ⟨#[33]⟩, .agg (Vc k n t)] (.agg (Oc 2 (bI (!b)) ByteArray.empty ⟨#[]⟩ 0)) := by
  intro W
  have HS := hide H
  have HT' := hide HT
  clear HT
  unfold Vc at HT'
  clear H
  unfold Vc at HS ⊢
  obtain ⟨W2, hW2, b1, b2, hb, hz⟩ := box_out W k n t
  obtain ⟨c0, c1, c2, f0, f1, f2, lt⟩ := b1.all
  have B2 := hide b2
  have HB := hide hb
  have HZ := hide hz
  clear b1 b2 hb hz
  go_enter Tryd.func11, Tryd.ntmps11
  go_wp2_with (first | (go_at_call 26; refine (unhide HS _).mono ?_; rintro e w1 ⟨rfl, hb1⟩; have hz := unhide HZ; have s1 := hb1.size; obtain ⟨W3, hW3, e1, e3, e4⟩ := new_box w1 k' n' t'; have HB3 := hide (((unhide HB).trans (hb1.mono (by omega))).trans (e3.mono (by omega))); have X2 := hide ((unhide B2).below (hb1.trans (e3.mono (by omega))) (by omega)); have HZ3 := hide e4; have HW1 := hide s1; obtain ⟨x0, x1, x2, y0, y1, y2, ly⟩ := e1.all; clear e1 e3 e4 s1) | (go_at_call 15; refine (unhide HT' _).mono ?_; rintro e w3 ⟨rfl, hb3⟩; have HBP := hide hb3) | (go_at_call 27; refine (rBool_any _ _).mono ?_; rintro e w4 ⟨rfl, hb4⟩; unfold Vc; have hz := unhide HZ; have hz3 := unhide HZ3; have hw1 := unhide HW1; have hbp := unhide HBP; have X4 := hide ((unhide X2).below (hbp.trans (hb4.mono hbp.size)) (by omega)); obtain ⟨d0, d1, d2, d3, d4, g0, g1, g2, g3, g4, lt'⟩ := (unhide X4).all))
  exact ret_o Tryd.results11 rfl (unhide X4) rfl ((unhide HB3).trans (((unhide HBP).trans (hb4.mono (unhide HBP).size)).mono (by omega))) (by omega) rfl
theorem run_neg (k n n' : Int) (t t' : ByteArray) (H : Ret 26 #[.agg (Vc k n t)] (.agg (Vc 3 n' t'))) (h : -9007199254740991 ≤ n' ∧ n' ≤ 9007199254740991) :
    Ret 11 #[.string ⟨#[45]⟩, .agg (Vc k n t)] (.agg (Oc 3 (-n') ByteArray.empty ⟨#[]⟩ 0)) := by
  intro W
  have HS := hide H
  obtain ⟨h1, h2⟩ := h
  clear H
  unfold Vc at HS ⊢
  obtain ⟨W2, hW2, b1, b2, hb, hz⟩ := box_out W k n t
  obtain ⟨c0, c1, c2, f0, f1, f2, lt⟩ := b1.all
  have B2 := hide b2
  have HB := hide hb
  have HZ := hide hz
  clear b1 b2 hb hz
  go_enter Tryd.func11, Tryd.ntmps11
  go_wp2_with (first | (go_at_call 26; refine (unhide HS _).mono ?_; rintro e w1 ⟨rfl, hb1⟩; have hz := unhide HZ; have s1 := hb1.size; obtain ⟨W3, hW3, e1, e3, e4⟩ := new_box w1 3 n' t'; have HB3 := hide (((unhide HB).trans (hb1.mono (by omega))).trans (e3.mono (by omega))); have X2 := hide ((unhide B2).below (hb1.trans (e3.mono (by omega))) (by omega)); have HZ3 := hide e4; have HW1 := hide s1; obtain ⟨x0, x1, x2, y0, y1, y2, ly⟩ := e1.all; clear e1 e3 e4 s1) | (go_at_call 29; refine (rNumber_any _ _).mono ?_; rintro e w4 ⟨rfl, hb4⟩; unfold Vc; have HBP := hide (Below.refl W3.heap.size W3); have hz := unhide HZ; have hz3 := unhide HZ3; have hw1 := unhide HW1; have hbp := unhide HBP; have X4 := hide ((unhide X2).below (hbp.trans (hb4.mono hbp.size)) (by omega)); obtain ⟨d0, d1, d2, d3, d4, g0, g1, g2, g3, g4, lt'⟩ := (unhide X4).all))
  exact ret_o Tryd.results11 rfl (unhide X4) rfl ((unhide HB3).trans (((unhide HBP).trans (hb4.mono (unhide HBP).size)).mono (by omega))) (by omega) rfl
theorem run_inv (k n n' : Int) (t t' : ByteArray) (H : Ret 26 #[.agg (Vc k n t)] (.agg (Vc 3 n' t'))) (l m : Int) (hl : n' % 4294967296 = l) (hm : wrap64 (wrap32 ((-l - 1) % 4294967296)) = m) :
    Ret 11 #[.string ⟨#[126]⟩, .agg (Vc k n t)] (.agg (Oc 3 m ByteArray.empty ⟨#[]⟩ 0)) := by
  intro W
  have HS := hide H
  have h0 : 0 ≤ l ∧ l < 4294967296 := by omega
  obtain ⟨h1, h2⟩ := h0
  have HL : Hid (Ret 31 #[.int .i64 n'] (.int .i64 l)) := by rw [← hl]; exact low_any n'
  have HM := hide (rsigned_any (-l - 1) m hm)
  clear hl hm
  clear H
  unfold Vc at HS ⊢
  obtain ⟨W2, hW2, b1, b2, hb, hz⟩ := box_out W k n t
  obtain ⟨c0, c1, c2, f0, f1, f2, lt⟩ := b1.all
  have B2 := hide b2
  have HB := hide hb
  have HZ := hide hz
  clear b1 b2 hb hz
  go_enter Tryd.func11, Tryd.ntmps11
  go_wp2_with (first | (go_at_call 26; refine (unhide HS _).mono ?_; rintro e w1 ⟨rfl, hb1⟩; have hz := unhide HZ; have s1 := hb1.size; obtain ⟨W3, hW3, e1, e3, e4⟩ := new_box w1 3 n' t'; have HB3 := hide (((unhide HB).trans (hb1.mono (by omega))).trans (e3.mono (by omega))); have X2 := hide ((unhide B2).below (hb1.trans (e3.mono (by omega))) (by omega)); have HZ3 := hide e4; have HW1 := hide s1; obtain ⟨x0, x1, x2, y0, y1, y2, ly⟩ := e1.all; clear e1 e3 e4 s1) | (go_at_call 31; refine (unhide HL _).mono ?_; rintro e w3 ⟨rfl, hb3⟩; have HBP := hide hb3) | (go_at_call 30; refine (unhide HM _).mono ?_; rintro e w4 ⟨rfl, hb4⟩; unfold Vc; have hz := unhide HZ; have hz3 := unhide HZ3; have hw1 := unhide HW1; have hbp := unhide HBP; have X4 := hide ((unhide X2).below (hbp.trans (hb4.mono hbp.size)) (by omega)); obtain ⟨d0, d1, d2, d3, d4, g0, g1, g2, g3, g4, lt'⟩ := (unhide X4).all))
  exact ret_o Tryd.results11 rfl (unhide X4) rfl ((unhide HB3).trans (((unhide HBP).trans (hb4.mono (unhide HBP).size)).mono (by omega))) (by omega) rfl
theorem run_neg_no (k n k' n' : Int) (t t' : ByteArray) (H : Ret 26 #[.agg (Vc k n t)] (.agg (Vc k' n' t'))) (h3 : (k' == 3) = false) :
    Ret 11 #[.string ⟨#[45]⟩, .agg (Vc k n t)] (.agg (Oc 0 0 ByteArray.empty numT 1)) := by
  intro W
  have HS := hide H
  clear H
  unfold Vc at HS ⊢
  obtain ⟨W2, hW2, b1, b2, hb, hz⟩ := box_out W k n t
  obtain ⟨c0, c1, c2, f0, f1, f2, lt⟩ := b1.all
  have B2 := hide b2
  have HB := hide hb
  have HZ := hide hz
  clear b1 b2 hb hz
  go_enter Tryd.func11, Tryd.ntmps11
  go_wp2_with (first | (go_at_call 26; refine (unhide HS _).mono ?_; rintro e w1 ⟨rfl, hb1⟩; have hz := unhide HZ; have s1 := hb1.size; obtain ⟨W3, hW3, e1, e3, e4⟩ := new_box w1 k' n' t'; have HB3 := hide (((unhide HB).trans (hb1.mono (by omega))).trans (e3.mono (by omega))); have X2 := hide ((unhide B2).below (hb1.trans (e3.mono (by omega))) (by omega)); have HZ3 := hide e4; have HW1 := hide s1; obtain ⟨x0, x1, x2, y0, y1, y2, ly⟩ := e1.all; clear e1 e3 e4 s1) | (go_at_call 28; refine (rThrow_any numT _).mono ?_; rintro e w4 ⟨rfl, hb4⟩; unfold Oc; have HBP := hide (Below.refl W3.heap.size W3); have hz := unhide HZ; have hz3 := unhide HZ3; have hw1 := unhide HW1; have hbp := unhide HBP; have X4 := hide ((unhide X2).below (hbp.trans (hb4.mono hbp.size)) (by omega)); obtain ⟨d0, d1, d2, d3, d4, g0, g1, g2, g3, g4, lt'⟩ := (unhide X4).all))
  exact ret_o Tryd.results11 rfl (unhide X4) rfl ((unhide HB3).trans (((unhide HBP).trans (hb4.mono (unhide HBP).size)).mono (by omega))) (by omega) rfl
theorem run_inv_no (k n k' n' : Int) (t t' : ByteArray) (H : Ret 26 #[.agg (Vc k n t)] (.agg (Vc k' n' t'))) (h3 : (k' == 3) = false) :
    Ret 11 #[.string ⟨#[126]⟩, .agg (Vc k n t)] (.agg (Oc 0 0 ByteArray.empty numT 1)) := by
  intro W
  have HS := hide H
  clear H
  unfold Vc at HS ⊢
  obtain ⟨W2, hW2, b1, b2, hb, hz⟩ := box_out W k n t
  obtain ⟨c0, c1, c2, f0, f1, f2, lt⟩ := b1.all
  have B2 := hide b2
  have HB := hide hb
  have HZ := hide hz
  clear b1 b2 hb hz
  go_enter Tryd.func11, Tryd.ntmps11
  go_wp2_with (first | (go_at_call 26; refine (unhide HS _).mono ?_; rintro e w1 ⟨rfl, hb1⟩; have hz := unhide HZ; have s1 := hb1.size; obtain ⟨W3, hW3, e1, e3, e4⟩ := new_box w1 k' n' t'; have HB3 := hide (((unhide HB).trans (hb1.mono (by omega))).trans (e3.mono (by omega))); have X2 := hide ((unhide B2).below (hb1.trans (e3.mono (by omega))) (by omega)); have HZ3 := hide e4; have HW1 := hide s1; obtain ⟨x0, x1, x2, y0, y1, y2, ly⟩ := e1.all; clear e1 e3 e4 s1) | (go_at_call 28; refine (rThrow_any numT _).mono ?_; rintro e w4 ⟨rfl, hb4⟩; unfold Oc; have HBP := hide (Below.refl W3.heap.size W3); have hz := unhide HZ; have hz3 := unhide HZ3; have hw1 := unhide HW1; have hbp := unhide HBP; have X4 := hide ((unhide X2).below (hbp.trans (hb4.mono hbp.size)) (by omega)); obtain ⟨d0, d1, d2, d3, d4, g0, g1, g2, g3, g4, lt'⟩ := (unhide X4).all))
  exact ret_o Tryd.results11 rfl (unhide X4) rfl ((unhide HB3).trans (((unhide HBP).trans (hb4.mono (unhide HBP).size)).mono (by omega))) (by omega) rfl
end Go.Proofs.YthjlhdldomfikaaDoor

/- value.Unary: - and ~. -/
import Derived.Test.YthjlhdldomfikaaDoorV4
namespace Go.Proofs.YthjlhdldomfikaaDoor
set_option linter.unusedSimpArgs false
set_option linter.unusedVariables false
set_option maxRecDepth 100000
open Go.RowKit Go.Shelf

theorem ofNumber_24 (n : Int) (t : ByteArray) : Ret 22 #[.agg (Vc 3 n t), .func (.func 24) #[] #[]] (Tr 3 (turnP n) ByteArray.empty ⟨#[]⟩ 0) := by
  intro W
  unfold Vc
  obtain ⟨W2, hW2, b1, b2, hb, hz⟩ := two_boxes W 3 n t
  obtain ⟨c0, c1, c2, f0, f1, f2, lt⟩ := b1.all
  have B1 := hide b1
  have B2 := hide b2
  have HB := hide hb
  have HZ := hide hz
  obtain ⟨m, hm⟩ : ∃ m, turnP n = m := ⟨_, rfl⟩
  have H := hide (turned_any n)
  rw [hm] at H ⊢
  clear b1 b2 hb hz hm
  go_enter Tryd.func22, Tryd.ntmps22
  go_wp2_with (first | (go_at_call 24; refine (unhide H _).mono ?_; rintro e w1 ⟨rfl, hb'⟩; have hz := unhide HZ; have E2 := hide ((unhide B2).below hb' (by omega))) | (go_at_call 58; refine (number_any _ _).mono ?_; unfold Tr; rintro e w2 ⟨rfl, hb''⟩; unfold Vc; have lt2 := hb'.size; have E3 := hide ((unhide E2).below hb'' (by omega)); obtain ⟨d0, d1, d2, g0, g1, g2, lt'⟩ := (unhide E3).all))
  exact ret_vsf Tryd.results22 rfl rfl rfl (unhide E3) rfl ((unhide HB).trans ((hb'.mono (by omega)).trans (hb''.mono (by omega)))) (by omega) rfl
theorem un_neg (k n k' n' x y f : Int) (t t' z s : ByteArray) (H : Ret 20 #[.agg (Vc k n t)] (.agg (Vc k' n' t'))) (HC : Ret 22 #[.agg (Vc k' n' t'), .func (.func 23) #[] #[]] (Tr x y z s f)) :
    Ret 10 #[.string ⟨#[45]⟩, .agg (Vc k n t)] (Tr x y z s f) := by
  intro W
  have HS := hide H
  have HC' := hide HC
  clear H HC
  unfold Tr at HC'
  unfold Vc at HS HC' ⊢
  obtain ⟨W2, hW2, b1, b2, hb, hz⟩ := two_boxes W k n t
  obtain ⟨c0, c1, c2, f0, f1, f2, lt⟩ := b1.all
  have B1 := hide b1
  have B2 := hide b2
  have HB := hide hb
  have HZ := hide hz
  clear b1 b2 hb hz
  go_enter Tryd.func10, Tryd.ntmps10
  go_wp2_with (first | (go_at_call 20; refine (unhide HS _).mono ?_; rintro e w1 ⟨rfl, hb1⟩; have hz := unhide HZ; have E1 := hide ((unhide B1).below hb1 (by omega)); have E2 := hide ((unhide B2).below hb1 (by omega)); obtain ⟨c0, c1, c2, f0, f1, f2, lt⟩ := (unhide E1).all; obtain ⟨W3, hW3, e1, e2, e3, e4⟩ := over w1 W.heap.size k n k' n' t t' (unhide E1); have s1 := hb1.size; have X2 := hide (e3 _ _ _ _ (unhide E2) (by omega)); have HB3 := hide (e2 _ _ ((unhide HB).trans (hb1.mono (by omega))) (by omega)); have HZ3 := hide e4; obtain ⟨x0, x1, x2, y0, y1, y2, ly⟩ := e1.all; clear e1 e2 e3 e4) | (go_at_call 22; refine (unhide HC' _).mono ?_; rintro e w4 ⟨rfl, hb4⟩; have hz3 := unhide HZ3; have X4 := hide ((unhide X2).below hb4 (by omega)); obtain ⟨d0, d1, d2, g0, g1, g2, lt'⟩ := (unhide X4).all))
  exact ret_vsf Tryd.results10 rfl rfl rfl (unhide X4) rfl ((unhide HB3).trans (hb4.mono (by omega))) (by omega) rfl
theorem un_inv (k n k' n' x y f : Int) (t t' z s : ByteArray) (H : Ret 20 #[.agg (Vc k n t)] (.agg (Vc k' n' t'))) (HC : Ret 22 #[.agg (Vc k' n' t'), .func (.func 24) #[] #[]] (Tr x y z s f)) :
    Ret 10 #[.string ⟨#[126]⟩, .agg (Vc k n t)] (Tr x y z s f) := by
  intro W
  have HS := hide H
  have HC' := hide HC
  clear H HC
  unfold Tr at HC'
  unfold Vc at HS HC' ⊢
  obtain ⟨W2, hW2, b1, b2, hb, hz⟩ := two_boxes W k n t
  obtain ⟨c0, c1, c2, f0, f1, f2, lt⟩ := b1.all
  have B1 := hide b1
  have B2 := hide b2
  have HB := hide hb
  have HZ := hide hz
  clear b1 b2 hb hz
  go_enter Tryd.func10, Tryd.ntmps10
  go_wp2_with (first | (go_at_call 20; refine (unhide HS _).mono ?_; rintro e w1 ⟨rfl, hb1⟩; have hz := unhide HZ; have E1 := hide ((unhide B1).below hb1 (by omega)); have E2 := hide ((unhide B2).below hb1 (by omega)); obtain ⟨c0, c1, c2, f0, f1, f2, lt⟩ := (unhide E1).all; obtain ⟨W3, hW3, e1, e2, e3, e4⟩ := over w1 W.heap.size k n k' n' t t' (unhide E1); have s1 := hb1.size; have X2 := hide (e3 _ _ _ _ (unhide E2) (by omega)); have HB3 := hide (e2 _ _ ((unhide HB).trans (hb1.mono (by omega))) (by omega)); have HZ3 := hide e4; obtain ⟨x0, x1, x2, y0, y1, y2, ly⟩ := e1.all; clear e1 e2 e3 e4) | (go_at_call 22; refine (unhide HC' _).mono ?_; rintro e w4 ⟨rfl, hb4⟩; have hz3 := unhide HZ3; have X4 := hide ((unhide X2).below hb4 (by omega)); obtain ⟨d0, d1, d2, g0, g1, g2, lt'⟩ := (unhide X4).all))
  exact ret_vsf Tryd.results10 rfl rfl rfl (unhide X4) rfl ((unhide HB3).trans (hb4.mono (by omega))) (by omega) rfl
/-- What Unary answers, as data. -/
def unP (op : ByteArray) (k n : Int) (t : ByteArray) : R5 :=
  if op = ⟨#[33]⟩ then ⟨2, bI (!truP k n t), ByteArray.empty, ⟨#[]⟩, 0⟩
  else if op = ⟨#[45]⟩ then (if k = 3 then ⟨3, -n, ByteArray.empty, ⟨#[]⟩, 0⟩ else ⟨0, 0, ByteArray.empty, numT, 1⟩)
  else if op = ⟨#[126]⟩ then (if k = 3 then ⟨3, turnP n, ByteArray.empty, ⟨#[]⟩, 0⟩ else ⟨0, 0, ByteArray.empty, numT, 1⟩)
  else ⟨0, 0, ByteArray.empty, ⟨#[]⟩, 0⟩
theorem op_ne {op : ByteArray} {l : List UInt8} (h : op ≠ ⟨l.toArray⟩) : (op.toList == l) = false := by
  rw [beq_eq_false_iff_ne]
  intro e
  apply h
  have : op.data.toList = l := by rw [← e]; exact (ByteArray.toList_eq op).symm
  cases op
  simp at this
  subst this
  simp
theorem clamp_in (n : Int) : -9007199254740991 ≤ clampN n ∧ clampN n ≤ 9007199254740991 := by unfold clampN; split <;> (try split) <;> omega
theorem Unary_any (op : ByteArray) (k n : Int) (t : ByteArray) : Ret 10 #[.string op, .agg (Vc k n t)] (unP op (stlK k) (stlN k n) (stlT k t)).tr := by
  have H : Ret 20 #[.agg (Vc k n t)] (.agg (Vc (stlK k) (stlN k n) (stlT k t))) := settled_any k n t
  have hcl : stlK k = 3 → -9007199254740991 ≤ stlN k n ∧ stlN k n ≤ 9007199254740991 := fun h => by
    have hk : k = 3 := by unfold stlK at h; split at h <;> omega
    subst hk
    simpa [stlN] using clamp_in n
  obtain ⟨k', hk⟩ : ∃ k', stlK k = k' := ⟨_, rfl⟩
  obtain ⟨n', hn⟩ : ∃ k', stlN k n = k' := ⟨_, rfl⟩
  obtain ⟨t', ht⟩ : ∃ k', stlT k t = k' := ⟨_, rfl⟩
  rw [hk, hn] at hcl
  rw [hk, hn, ht] at H ⊢
  unfold unP
  by_cases h1 : op = ⟨#[33]⟩
  · rw [if_pos h1, h1]
    exact un_not k n k' n' t t' H _ (Truth_any _ _ _)
  rw [if_neg h1]
  by_cases h2 : op = ⟨#[45]⟩
  · rw [if_pos h2, h2]
    by_cases h3 : k' = 3
    · subst h3
      rw [if_pos rfl]
      exact un_neg k n _ n' _ _ _ t t' _ _ H (ofNumber_23 n' t' (hcl rfl))
    · rw [if_neg h3]
      exact un_neg k n _ n' _ _ _ t t' _ _ H (ofNumber_no k' n' t' _ (by simp [h3]))
  rw [if_neg h2]
  by_cases h4 : op = ⟨#[126]⟩
  · rw [if_pos h4, h4]
    by_cases h3 : k' = 3
    · subst h3
      rw [if_pos rfl]
      exact un_inv k n _ n' _ _ _ t t' _ _ H (ofNumber_24 n' t')
    · rw [if_neg h3]
      exact un_inv k n _ n' _ _ _ t t' _ _ H (ofNumber_no k' n' t' _ (by simp [h3]))
  rw [if_neg h4]
  exact un_other op k n k' n' t t' H (op_ne h1) (op_ne h2) (op_ne h4)
end Go.Proofs.YthjlhdldomfikaaDoor

/- The law ValueOrder holds at every two values whose texts have no more than 1048576 bytes. -/
import Derived.Test.YthjlhdldomfikaaDoorVY9
namespace Go.Proofs.YthjlhdldomfikaaDoor
set_option linter.unusedSimpArgs false
set_option linter.unusedVariables false
set_option maxRecDepth 100000
set_option maxHeartbeats 1000000
open Go.RowKit Go.Shelf

theorem eqV_zero_num (n n' : Int) : eqV 3 n ByteArray.empty 3 n' ByteArray.empty = true ↔ cmpP n n' = 0 := by
  rw [cmpP_zero, eqV_num]; simp
theorem eqV_txt (s t : ByteArray) : eqV 4 0 s 4 0 t = true ↔ s = t := by
  unfold eqV
  rw [Lib.toList_data, Lib.toList_data]
  constructor
  · intro h
    have h' : s.data.toList = t.data.toList := by simpa using h
    exact WideShapes.bytes_inj h'
  · rintro rfl
    simp
theorem cmpF_self (a : ByteArray) : ∀ f i, cmpF a a f i i = 0 := by
  intro f
  induction f with
  | zero => intro i; rfl
  | succ f ih => intro i; rw [cmpF_succ]; (repeat' split) <;> first | exact ih _ | rfl | omega
theorem le_not (o : Int) : decide (o ≤ 0) = !(decide (-o < 0)) := by
  by_cases h : o ≤ 0
  · rw [decide_eq_true h, decide_eq_false (by omega)]; rfl
  · rw [decide_eq_false h, decide_eq_true (by omega)]; rfl
theorem gt_turn (o : Int) : decide (0 < o) = decide (-o < 0) := by
  by_cases h : 0 < o
  · rw [decide_eq_true h, decide_eq_true (by omega)]
  · rw [decide_eq_false h, decide_eq_false (by omega)]
theorem ge_not (o : Int) : decide (0 ≤ o) = !(decide (o < 0)) := by
  by_cases h : o < 0
  · rw [decide_eq_true h, decide_eq_false (by omega)]; rfl
  · rw [decide_eq_false h, decide_eq_true (by omega)]; rfl

theorem order_any (k n k' n' : Int) (t t' : ByteArray) (hs : t.size ≤ 1048576) (hs' : t'.size ≤ 1048576) :
    Ret 7 #[.agg (Vc k n t), .agg (Vc k' n' t')] (.bool true) := by
  obtain ⟨g1, hg1⟩ : ∃ r : Bool, r = true ↔ GoodT t := ⟨@decide (GoodT t) (Classical.propDecidable _), @decide_eq_true_iff _ (Classical.propDecidable _)⟩
  obtain ⟨g2, hg2⟩ : ∃ r : Bool, r = true ↔ GoodT t' := ⟨@decide (GoodT t') (Classical.propDecidable _), @decide_eq_true_iff _ (Classical.propDecidable _)⟩
  have G1 := good_any t hs g1 hg1
  have G2 := good_any t' hs' g2 hg2
  by_cases h44 : k = 4 ∧ k' = 4
  · obtain ⟨rfl, rfl⟩ := h44
    by_cases h : 70000 < t.size + t'.size ∨ g1 = false ∨ g2 = false
    · exact known_44 n n' t t' hs hs' g1 g2 G1 G2 h
    · have e1 : g1 = true := by cases g1 <;> simp_all
      have e2 : g2 = true := by cases g2 <;> simp_all
      subst e1 e2
      have q1 := hg1.1 rfl
      have q2 := hg2.1 rfl
      have hsz : t.size + t'.size ≤ 70000 := by omega
      have b1 : t.size ≤ 281474976710656 := by omega
      have b2 : t'.size ≤ 281474976710656 := by omega
      have same : eqV 4 0 t 4 0 t' = true ↔ cmpF t t' (t.size + 1) 0 0 = 0 := by
        rw [eqV_txt]
        constructor
        · rintro rfl; exact cmpF_self _ _ _
        · exact cmp_same t t' q1 q2
      have turn := cmpF_turn t t'
      have one := one_of _ _ same
      refine order_txt n n' t t' hsz (decide (cmpF t t' (t.size + 1) 0 0 < 0)) (eqV 4 0 t 4 0 t') (decide (-cmpF t t' (t.size + 1) 0 0 < 0)) one ?_ ?_ ?_ ?_ ?_ ?_ G1 G2
      · exact bin_txt _ n n' t t' b1 b2 _ (.inl ⟨rfl, rfl⟩)
      · exact bin_txt _ n n' t t' b1 b2 _ (.inr (.inr (.inr (.inr ⟨rfl, rfl⟩))))
      · exact bin_txt _ n' n t' t b2 b1 _ (.inl ⟨rfl, by rw [turn]⟩)
      · exact bin_txt _ n n' t t' b1 b2 _ (.inr (.inl ⟨rfl, (le_not _).symm⟩))
      · exact bin_txt _ n n' t t' b1 b2 _ (.inr (.inr (.inl ⟨rfl, (gt_turn _).symm⟩)))
      · exact bin_txt _ n n' t t' b1 b2 _ (.inr (.inr (.inr (.inl ⟨rfl, (ge_not _).symm⟩))))
  · by_cases h : 70000 < t.size + t'.size ∨ ¬ (k = 3 ∧ k' = 3)
    · exact known_ne k n k' n' t t' hs hs' h44 h
    · have hsz : t.size + t'.size ≤ 70000 := by omega
      have h33 : k = 3 ∧ k' = 3 := Classical.byContradiction fun q => h (.inr q)
      obtain ⟨rfl, rfl⟩ := h33
      have one := one_of _ _ (eqV_zero_num (clampN n) (clampN n'))
      have turn := cmpP_swap (clampN n) (clampN n')
      refine order_num n n' t t' hsz (decide (cmpP (clampN n) (clampN n') < 0)) (eqV 3 (clampN n) ByteArray.empty 3 (clampN n') ByteArray.empty) (decide (-cmpP (clampN n) (clampN n') < 0)) one ?_ ?_ ?_ ?_ ?_ ?_
      · exact bin_nums _ n n' t t' _ (.inl ⟨rfl, rfl⟩)
      · exact bin_nums _ n n' t t' _ (.inr (.inr (.inr (.inr ⟨rfl, rfl⟩))))
      · exact bin_nums _ n' n t' t _ (.inl ⟨rfl, by rw [turn]⟩)
      · exact bin_nums _ n n' t t' _ (.inr (.inl ⟨rfl, (le_not _).symm⟩))
      · exact bin_nums _ n n' t t' _ (.inr (.inr (.inl ⟨rfl, (gt_turn _).symm⟩)))
      · exact bin_nums _ n n' t t' _ (.inr (.inr (.inr (.inl ⟨rfl, (ge_not _).symm⟩))))
end Go.Proofs.YthjlhdldomfikaaDoor

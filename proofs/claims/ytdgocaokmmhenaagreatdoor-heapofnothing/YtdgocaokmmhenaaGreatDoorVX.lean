/- The law ValueTexts, walked: both texts of a value. -/
import Derived.Test.YtdgocaokmmhenaaGreatDoorVW
namespace Go.Proofs.YtdgocaokmmhenaaGreatDoor
set_option linter.unusedSimpArgs false
set_option linter.unusedVariables false
set_option maxRecDepth 100000
set_option maxHeartbeats 4000000
open Go.RowKit Go.Shelf

theorem digs_len (m : Nat) : ∀ n : Nat, n < 10 ^ m → (Lib.decDigits n).length ≤ m + 1 := by
  induction m with
  | zero => intro n hn; rw [digits_one n (by simp at hn; omega)]; simp
  | succ m ih =>
    intro n hn
    by_cases h : n < 10
    · rw [digits_one n h]; simp
    · rw [digits_step n h]
      have := ih (n / 10) (by rw [Nat.pow_succ] at hn; omega)
      simp
      omega
theorem itoa_short (n : Int) (h0 : -9007199254740991 ≤ n) (h1 : n ≤ 9007199254740991) : (itoaT n).size ≤ 281474976710656 := by
  show (Lib.itoa n).toArray.size ≤ _
  unfold Lib.itoa
  split
  · have := digs_len 16 n.natAbs (by have : (10 : Nat) ^ 16 = 10000000000000000 := by decide
                                     omega)
    simp
    omega
  · have := digs_len 16 n.toNat (by have : (10 : Nat) ^ 16 = 10000000000000000 := by decide
                                    omega)
    simp
    omega
theorem rText_any (k n : Int) (t : ByteArray) : Ret 75 #[.agg (Vc k n t)] (.string (textP (stlK k) (stlN k n) (stlT k t))) := by
  have H : Ret 72 #[.agg (Vc k n t)] (.agg (Vc (stlK k) (stlN k n) (stlT k t))) := rSane_any k n t
  have hk := stlK_in k
  have hn := fun h => stl_num (k := k) h n
  have h5 : stlK k = 5 → stlT k t = ByteArray.empty := fun h => by
    have hk : k = 5 := by unfold stlK at h; split at h <;> omega
    subst hk; rfl
  generalize stlK k = k' at *
  generalize stlN k n = n' at *
  generalize stlT k t = t' at *
  unfold textP
  have hc : k' = 0 ∨ k' = 1 ∨ k' = 2 ∨ k' = 3 ∨ k' = 4 ∨ k' = 5 := by omega
  rcases hc with rfl | rfl | rfl | rfl | rfl | rfl
  · exact rText_walk k n _ n' t t' _ H (.inl ⟨rfl, rfl⟩)
  · exact rText_walk k n _ n' t t' _ H (.inr (.inl ⟨rfl, rfl⟩))
  · by_cases h : n' = 0
    · subst h
      exact rText_walk k n _ 0 t t' _ H (.inr (.inr (.inl ⟨rfl, rfl, rfl⟩)))
    · have e : (n' != 0) = true := by simp [h]
      rw [e]
      exact rText_walk k n _ n' t t' _ H (.inr (.inr (.inr (.inl ⟨rfl, by simp [h], rfl⟩))))
  · have := hn rfl
    by_cases h : n' < 0
    · exact rText_3 k n n' t t' _ H (digits_neg n' h this.1)
    · exact rText_3 k n n' t t' _ H (digits_pos n' (by omega) this.2)
  · exact rText_walk k n _ n' t t' _ H (.inr (.inr (.inr (.inr (.inl ⟨rfl, rfl⟩)))))
  · have e := h5 rfl
    subst e
    exact rText_walk k n _ n' t _ _ H (.inr (.inr (.inr (.inr (.inr ⟨rfl, rfl⟩)))))
theorem pText_any (A : World) (k n : Int) (t : ByteArray) (ht : t.size ≤ 281474976710656) (hT : Lib.TabIs Tryz.prog A "internal/strconv.uint64pow10" .u64 Lib.pow10Tab) : RetA A 43 #[.agg (Vc k n t)] (.string (textP (stlK k) (stlN k n) (stlT k t))) := by
  have H : Ret 70 #[.agg (Vc k n t)] (.agg (Vc (stlK k) (stlN k n) (stlT k t))) := vsettled_any k n t
  have hk := stlK_in k
  have hn := fun h => stl_num (k := k) h n
  have h5 : (stlT k t).size ≤ 281474976710656 := by
    unfold stlT
    split
    · exact ht
    · exact Nat.zero_le _
  generalize stlK k = k' at *
  generalize stlN k n = n' at *
  generalize stlT k t = t' at *
  unfold textP
  have hc : k' = 0 ∨ k' = 1 ∨ k' = 2 ∨ k' = 3 ∨ k' = 4 ∨ k' = 5 := by omega
  rcases hc with rfl | rfl | rfl | rfl | rfl | rfl
  · exact Text_A A k n _ n' t t' _ H ((said_0 n' t').at A) (show undefT.size ≤ 281474976710656 by decide)
  · exact Text_A A k n _ n' t t' _ H ((said_1 n' t').at A) (show nullT.size ≤ 281474976710656 by decide)
  · exact Text_A A k n _ n' t t' _ H ((said_2 n' t' _ rfl).at A) (show (boolT (n' != 0)).size ≤ 281474976710656 by cases n' != 0 <;> decide)
  · have := hn rfl
    exact Text_A A k n _ n' t t' _ H (vsaid_3 A n' t' _ (itoa_A A n' this.1 this.2 hT)) (itoa_short n' this.1 this.2)
  · exact Text_A A k n _ n' t t' _ H ((said_text 4 n' t' (.inl rfl)).at A) h5
  · exact Text_A A k n _ n' t t' _ H ((said_text 5 n' t' (.inr rfl)).at A) h5
end Go.Proofs.YtdgocaokmmhenaaGreatDoor

/- The law ValueTexts, walked: both texts of a value. -/
import Derived.Test.YthjlhdldomfikaaDoorVW
namespace Go.Proofs.YthjlhdldomfikaaDoor
set_option linter.unusedSimpArgs false
set_option linter.unusedVariables false
set_option maxRecDepth 100000
set_option maxHeartbeats 4000000
open Go.RowKit Go.Shelf

theorem digs_len (m : Nat) : ∀ n : Nat, n < 10 ^ m → (Lib.decDigits n).length ≤ m + 1 := by
  induction m with
  | zero => intro n hn; rw [digits_one n (by simp at hn; omega)]; simp
  | succ m ih =>
    intro n hn
    by_cases h : n < 10
    · rw [digits_one n h]; simp
    · rw [digits_step n h]
      have := ih (n / 10) (by rw [Nat.pow_succ] at hn; omega)
      simp
      omega
theorem itoa_short (n : Int) (h0 : -9007199254740991 ≤ n) (h1 : n ≤ 9007199254740991) : (itoaT n).size ≤ 281474976710656 := by
  show (Lib.itoa n).toArray.size ≤ _
  unfold Lib.itoa
  split
  · have := digs_len 16 n.natAbs (by have : (10 : Nat) ^ 16 = 10000000000000000 := by decide
                                     omega)
    simp
    omega
  · have := digs_len 16 n.toNat (by have : (10 : Nat) ^ 16 = 10000000000000000 := by decide
                                    omega)
    simp
    omega
theorem rText_any (k n : Int) (t : ByteArray) : Ret 17 #[.agg (Vc k n t)] (.string (textP (stlK k) (stlN k n) (stlT k t))) := by
  have H : Ret 26 #[.agg (Vc k n t)] (.agg (Vc (stlK k) (stlN k n) (stlT k t))) := rSane_any k n t
  have hk := stlK_in k
  have hn := fun h => stl_num (k := k) h n
  have h5 : stlK k = 5 → stlT k t = ByteArray.empty := fun h => by
    have hk : k = 5 := by unfold stlK at h; split at h <;> omega
    subst hk; rfl
  generalize stlK k = k' at *
  generalize stlN k n = n' at *
  generalize stlT k t = t' at *
  unfold textP
  have hc : k' = 0 ∨ k' = 1 ∨ k' = 2 ∨ k' = 3 ∨ k' = 4 ∨ k' = 5 := by omega
  rcases hc with rfl | rfl | rfl | rfl | rfl | rfl
  · exact rText_walk k n _ n' t t' _ H (.inl ⟨rfl, rfl⟩)
  · exact rText_walk k n _ n' t t' _ H (.inr (.inl ⟨rfl, rfl⟩))
  · by_cases h : n' = 0
    · subst h
      exact rText_walk k n _ 0 t t' _ H (.inr (.inr (.inl ⟨rfl, rfl, rfl⟩)))
    · have e : (n' != 0) = true := by simp [h]
      rw [e]
      exact rText_walk k n _ n' t t' _ H (.inr (.inr (.inr (.inl ⟨rfl, by simp [h], rfl⟩))))
  · have := hn rfl
    by_cases h : n' < 0
    · exact rText_3 k n n' t t' _ H (digits_neg n' h this.1)
    · exact rText_3 k n n' t t' _ H (digits_pos n' (by omega) this.2)
  · exact rText_walk k n _ n' t t' _ H (.inr (.inr (.inr (.inr (.inl ⟨rfl, rfl⟩)))))
  · have e := h5 rfl
    subst e
    exact rText_walk k n _ n' t _ _ H (.inr (.inr (.inr (.inr (.inr ⟨rfl, rfl⟩)))))
theorem pText_any (A : World) (k n : Int) (t : ByteArray) (ht : t.size ≤ 281474976710656) (hT : Lib.TabIs Tryd.prog A "internal/strconv.uint64pow10" .u64 Lib.pow10Tab) : RetA A 16 #[.agg (Vc k n t)] (.string (textP (stlK k) (stlN k n) (stlT k t))) := by
  have H : Ret 20 #[.agg (Vc k n t)] (.agg (Vc (stlK k) (stlN k n) (stlT k t))) := settled_any k n t
  have hk := stlK_in k
  have hn := fun h => stl_num (k := k) h n
  have h5 : (stlT k t).size ≤ 281474976710656 := by
    unfold stlT
    split
    · exact ht
    · exact Nat.zero_le _
  generalize stlK k = k' at *
  generalize stlN k n = n' at *
  generalize stlT k t = t' at *
  unfold textP
  have hc : k' = 0 ∨ k' = 1 ∨ k' = 2 ∨ k' = 3 ∨ k' = 4 ∨ k' = 5 := by omega
  rcases hc with rfl | rfl | rfl | rfl | rfl | rfl
  · exact Text_A A k n _ n' t t' _ H ((said_0 n' t').at A) (show undefT.size ≤ 281474976710656 by decide)
  · exact Text_A A k n _ n' t t' _ H ((said_1 n' t').at A) (show nullT.size ≤ 281474976710656 by decide)
  · exact Text_A A k n _ n' t t' _ H ((said_2 n' t' _ rfl).at A) (show (boolT (n' != 0)).size ≤ 281474976710656 by cases n' != 0 <;> decide)
  · have := hn rfl
    exact Text_A A k n _ n' t t' _ H (said_3 A n' t' _ (itoa_A A n' this.1 this.2 hT)) (itoa_short n' this.1 this.2)
  · exact Text_A A k n _ n' t t' _ H ((said_text 4 n' t' (.inl rfl)).at A) h5
  · exact Text_A A k n _ n' t t' _ H ((said_text 5 n' t' (.inr rfl)).at A) h5
theorem valueTexts_any (t : ByteArray) (k n : Int) (ht : t.size ≤ 140737488355328) (W : World) (hT : Lib.TabIs Tryd.prog W "internal/strconv.uint64pow10" .u64 Lib.pow10Tab) : Calls Tryd.prog 6 #[.agg (Vc k n t)] W fun e w' => e = .returned (.bool true) ∧ Below W.heap.size W w' := by
  have HK := hide known_any
  obtain ⟨W1, hW1, b1, hb, hz⟩ := new_box W k n t
  have B1 := hide b1
  have HB := hide hb
  obtain ⟨c0, c1, c2, f0, f1, f2, lt⟩ := b1.all
  clear b1 hb hz
  by_cases hbig : (70000 : Int) < (t.size : Int)
  · unfold Vc
    go_enter Tryd.func6, Tryd.ntmps6
    go_wp2_with (go_at_call 9; refine (unhide HK _).mono ?_; rintro e w2 ⟨rfl, hb2⟩; have HB2 := hide (Below.up (unhide HB) hb2))
    go_ret
    exact ⟨rfl, unhide HB2⟩
  · have H1 := Truth_any k n t
    rw [tru_stl] at H1
    have H2 := rTruth_any _ _ _ (stlK_in k) k n t (rSane_any k n t)
    have H3 := pText_any W k n t (by omega) hT
    have H4 := rText_any k n t
    generalize truP (stlK k) (stlN k n) (stlT k t) = q at H1 H2
    generalize textP (stlK k) (stlN k n) (stlT k t) = s at H3 H4
    unfold Vc at H1 H2 H3 H4
    have HT1 : Hid (∀ w, Calls Tryd.prog 14 #[.agg #[.int .i64 k, .int .i64 n, .string t]] w fun e w' => e = .returned (.bool q) ∧ Below w.heap.size w w') := H1
    have HT2 : Hid (∀ w, Calls Tryd.prog 15 #[.agg #[.int .i64 k, .int .i64 n, .string t]] w fun e w' => e = .returned (.bool q) ∧ Below w.heap.size w w') := H2
    have HT3 : Hid (∀ w, Below W1.heap.size W1 w → Calls Tryd.prog 16 #[.agg #[.int .i64 k, .int .i64 n, .string t]] w fun e w' => e = .returned (.string s) ∧ Below w.heap.size w w') := fun w hw => H3 w (Below.up (unhide HB) hw)
    have HT4 : Hid (∀ w, Calls Tryd.prog 17 #[.agg #[.int .i64 k, .int .i64 n, .string t]] w fun e w' => e = .returned (.string s) ∧ Below w.heap.size w w') := H4
    have HKK : Hid (∀ w, Calls Tryd.prog 9 #[] w fun e w' => e = .returned (.bool true) ∧ Below w.heap.size w w') := fun w => known_any w
    have HSS := hide (fun w' (hw : Below W1.heap.size W1 w') => ((unhide B1).up hw).all)
    clear H1 H2 H3 H4 hT
    unfold Vc
    go_enter Tryd.func6, Tryd.ntmps6
    go_wp2
    refine region_C (C := fun w' => Below W1.heap.size W1 w') (by kernel_rfl) (by kernel_rfl) (Below.refl _ _).drew ?_
    repeat (first
      | go_big_quiet_skip
      | (go_big_quiet_want
         go_big_quiet_op
         first
           | go_big_quiet_on
           | (apply Exists.intro
              refine ⟨fun w hw => ?_, ?_⟩
              first
                | rfl
                | with_reducible exact (unhide HT1 w).mono fun e w2 h => ⟨h.1, hw.trans (h.2.mono hw.size)⟩
                | with_reducible exact (unhide HT2 w).mono fun e w2 h => ⟨h.1, hw.trans (h.2.mono hw.size)⟩
                | with_reducible exact (unhide HT3 w hw).mono fun e w2 h => ⟨h.1, hw.trans (h.2.mono hw.size)⟩
                | with_reducible exact (unhide HT4 w).mono fun e w2 h => ⟨h.1, hw.trans (h.2.mono hw.size)⟩
                | with_reducible exact (unhide HKK w).mono fun e w2 h => ⟨h.1, hw.trans (h.2.mono hw.size)⟩
                | (obtain ⟨a1, a2, a3, -, -, -, -⟩ := unhide HSS w hw
                   go_simp
                   first | done | rfl | exact ⟨rfl, rfl⟩)
              go_big_quiet_on)))
    refine wpQuiet_nil ?_
    intro wz hwz
    have HWZ := hide hwz
    clear hwz
    go_wp2
    go_ret
    exact ⟨rfl, Below.up (unhide HB) (unhide HWZ)⟩
end Go.Proofs.YthjlhdldomfikaaDoor

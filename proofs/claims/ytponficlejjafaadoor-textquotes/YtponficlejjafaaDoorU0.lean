/- The language's own decoding of a string (as the model has it) tells the same rune and width as the plain one, at every place. -/
import Derived.Test.YtponficlejjafaaDoorP0
import Derived.Test.YtponficlejjafaaDoorD1
namespace Go.Proofs.YtponficlejjafaaDoor
set_option linter.unusedSimpArgs false
set_option linter.unusedVariables false

theorem gS_get (s : ByteArray) (j : Nat) : gS s j = ((s.get! j).toNat : Int) := by
  unfold gS
  congr 2
  cases s with
  | mk d =>
    show (d[j]?.getD 0) = (ByteArray.get! ⟨d⟩ j)
    simp only [ByteArray.get!]
    rw [getElem!_def]
    cases h : d[j]? <;> simp <;> rfl
theorem get_lt (s : ByteArray) (j : Nat) : (s.get! j).toNat < 256 := (s.get! j).toNat_lt

theorem bad_is {g : Nat → Int} {len i : Nat} (hi : i < len) (h : good g len i = false) : (((65533, 1) : Nat × Nat).1 : Int) = dRune g len i ∧ ((65533, 1) : Nat × Nat).2 = stepN g len i := by
  obtain ⟨e1, _, _⟩ := dBad hi h
  exact ⟨by rw [e1]; rfl, by simp [stepN, hi, h]⟩
theorem good_is {g : Nat → Int} {len i c n : Nat} (hi : i < len) (h : good g len i = true) (hc : (c : Int) = acc g i (wid (g i) - 1)) (hn : n = wid (g i)) : (((c, n) : Nat × Nat).1 : Int) = dRune g len i ∧ ((c, n) : Nat × Nat).2 = stepN g len i := by
  obtain ⟨e1, _, _⟩ := dYes hi h
  exact ⟨hc.trans e1.symm, by simp [stepN, hi, h, hn]⟩

theorem dec_eq (s : ByteArray) (i : Nat) (hi : i < s.size) : ((Utf8.decode s i).1 : Int) = dRune (gS s) s.size i ∧ (Utf8.decode s i).2 = stepN (gS s) s.size i := by
  unfold Utf8.decode
  dsimp only
  have e0 := gS_get s i
  have e1 := gS_get s (i + 1)
  have e2 := gS_get s (i + 2)
  have e3 := gS_get s (i + 3)
  have l0 := get_lt s i
  have l1 := get_lt s (i + 1)
  have l2 := get_lt s (i + 2)
  have l3 := get_lt s (i + 3)
  obtain ⟨n0, q0⟩ : ∃ n, (s.get! i).toNat = n := ⟨_, rfl⟩
  obtain ⟨n1, q1⟩ : ∃ n, (s.get! (i + 1)).toNat = n := ⟨_, rfl⟩
  obtain ⟨n2, q2⟩ : ∃ n, (s.get! (i + 2)).toNat = n := ⟨_, rfl⟩
  obtain ⟨n3, q3⟩ : ∃ n, (s.get! (i + 3)).toNat = n := ⟨_, rfl⟩
  rw [q0] at e0 l0
  rw [q1] at e1 l1
  rw [q2] at e2 l2
  rw [q3] at e3 l3
  simp only [Nat.add_zero, q0, q1, q2, q3]
  clear q0 q1 q2 q3
  revert e0 e1 e2 e3 hi
  obtain ⟨g, hg⟩ : ∃ g, g = gS s := ⟨_, rfl⟩
  obtain ⟨len, hl⟩ : ∃ l, l = s.size := ⟨_, rfl⟩
  rw [← hg, ← hl]
  clear hg hl
  intro hi e0 e1 e2 e3
  by_cases h0 : n0 < 128
  · rw [if_pos h0]
    obtain ⟨hg, hw, ha⟩ := small_good (g := g) hi (by omega) (by omega)
    exact good_is hi hg (by rw [ha, e0]) hw.symm
  rw [if_neg h0]
  by_cases c2 : n0 / 32 = 6
  · have hW : wid (g i) = 2 := by unfold wid; (repeat' split) <;> omega
    have hD : dig (g i) = (n0 : Int) - 192 := by unfold dig; (repeat' split) <;> omega
    have hL : lst (g i) = 128 := by unfold lst; (repeat' split) <;> omega
    have n16 : ¬ n0 / 16 = 14 := by omega
    have n8 : ¬ n0 / 8 = 30 := by omega
    by_cases k1 : i + 1 < len ∧ n1 / 64 = 2
    · have hcn : conts (g) i 1 = true := conts_of_lt fun j hj => by
        obtain rfl : j = 0 := by omega
        rw [Nat.add_zero, e1]; omega
      have ha : acc (g) i 1 = ((n0 % 32 * 64 + n1 % 64 : Nat) : Int) := by simp only [acc, hD, Nat.add_zero, e1]; omega
      simp only [c2, k1, beq_self_eq_true, decide_true, Bool.and_self, if_true]
      split
      · rename_i hc
        refine good_is hi (good_of (by omega) (by omega) (by rw [hW]; exact hcn) (by rw [hW, hL, ha]; omega) (by rw [hW]; simp only [alw, ha]; simp; omega)) (by rw [hW, ha]) hW.symm
      · rename_i hc
        exact bad_is hi (bad_lst (by rw [hW, hL, ha]; omega))
    · have hf : (decide (i + 1 < len) && n1 / 64 == 2) = false := by simp; omega
      simp only [c2, hf, n16, n8, beq_self_eq_true, Bool.and_false, Bool.false_and, beq_eq_false_iff_ne.2 n16, beq_eq_false_iff_ne.2 n8, Bool.false_eq_true, if_false]
      by_cases kl : i + 1 < len
      · exact bad_is hi (bad_cont (j := 0) (by omega) (by rw [Nat.add_zero, e1]; omega))
      · exact bad_is hi (bad_len (by omega))
  have n32 := beq_eq_false_iff_ne.2 c2
  simp only [n32, Bool.false_and, Bool.false_eq_true, if_false]
  by_cases c3 : n0 / 16 = 14
  · have hW : wid (g i) = 3 := by unfold wid; (repeat' split) <;> omega
    have hD : dig (g i) = (n0 : Int) - 224 := by unfold dig; (repeat' split) <;> omega
    have hL : lst (g i) = 2048 := by unfold lst; (repeat' split) <;> omega
    have n8 : ¬ n0 / 8 = 30 := by omega
    by_cases k1 : (i + 1 < len ∧ n1 / 64 = 2) ∧ (i + 2 < len ∧ n2 / 64 = 2)
    · have hcn : conts (g) i 2 = true := conts_of_lt fun j hj => by
        rcases (show j = 0 ∨ j = 1 by omega) with rfl | rfl
        · rw [Nat.add_zero, e1]; omega
        · rw [show i + 1 + 1 = i + 2 from rfl, e2]; omega
      have ha : acc (g) i 2 = ((n0 % 16 * 4096 + n1 % 64 * 64 + n2 % 64 : Nat) : Int) := by simp only [acc, hD, Nat.add_zero, show i + 1 + 1 = i + 2 from rfl, e1, e2]; omega
      simp only [c3, k1, beq_self_eq_true, decide_true, Bool.and_self, if_true]
      split
      · rename_i hc
        simp [Utf8.valid] at hc
        refine good_is hi (good_of (by omega) (by omega) (by rw [hW]; exact hcn) (by rw [hW, hL, ha]; omega) (by rw [hW]; simp only [alw, ha]; simp; omega)) (by rw [hW, ha]) hW.symm
      · rename_i hc
        simp [Utf8.valid] at hc
        by_cases hlow : acc (g) i 2 < 2048
        · exact bad_is hi (bad_lst (by rw [hW, hL]; exact hlow))
        · exact bad_is hi (bad_alw (by rw [hW]; simp only [alw]; rw [ha] at hlow ⊢; simp; omega))
    · have hf : (n0 / 16 == 14 && (decide (i + 1 < len) && n1 / 64 == 2) && (decide (i + 2 < len) && n2 / 64 == 2)) = false := by simp; omega
      simp only [hf, beq_eq_false_iff_ne.2 n8, Bool.false_and, Bool.false_eq_true, if_false]
      by_cases kl : i + 2 < len
      · by_cases k1' : n1 / 64 = 2
        · exact bad_is hi (bad_cont (j := 1) (by omega) (by rw [show i + 1 + 1 = i + 2 from rfl, e2]; omega))
        · exact bad_is hi (bad_cont (j := 0) (by omega) (by rw [Nat.add_zero, e1]; omega))
      · exact bad_is hi (bad_len (by omega))
  have n16 := beq_eq_false_iff_ne.2 c3
  simp only [n16, Bool.false_and, Bool.false_eq_true, if_false]
  by_cases c4 : n0 / 8 = 30
  · have hW : wid (g i) = 4 := by unfold wid; (repeat' split) <;> omega
    have hD : dig (g i) = (n0 : Int) - 240 := by unfold dig; (repeat' split) <;> omega
    have hL : lst (g i) = 65536 := by unfold lst; (repeat' split) <;> omega
    by_cases k1 : (i + 1 < len ∧ n1 / 64 = 2) ∧ (i + 2 < len ∧ n2 / 64 = 2) ∧ (i + 3 < len ∧ n3 / 64 = 2)
    · have hcn : conts (g) i 3 = true := conts_of_lt fun j hj => by
        rcases (show j = 0 ∨ j = 1 ∨ j = 2 by omega) with rfl | rfl | rfl
        · rw [Nat.add_zero, e1]; omega
        · rw [show i + 1 + 1 = i + 2 from rfl, e2]; omega
        · rw [show i + 1 + 2 = i + 3 from rfl, e3]; omega
      have ha : acc (g) i 3 = ((n0 % 8 * 262144 + n1 % 64 * 4096 + n2 % 64 * 64 + n3 % 64 : Nat) : Int) := by simp only [acc, hD, Nat.add_zero, show i + 1 + 1 = i + 2 from rfl, show i + 1 + 2 = i + 3 from rfl, e1, e2, e3]; omega
      simp only [c4, k1, beq_self_eq_true, decide_true, Bool.and_self, if_true]
      split
      · rename_i hc
        simp [Utf8.valid] at hc
        refine good_is hi (good_of (by omega) (by omega) (by rw [hW]; exact hcn) (by rw [hW, hL, ha]; omega) (by rw [hW]; simp only [alw, ha]; simp; omega)) (by rw [hW, ha]) hW.symm
      · rename_i hc
        simp [Utf8.valid] at hc
        by_cases hlow : acc (g) i 3 < 65536
        · exact bad_is hi (bad_lst (by rw [hW, hL]; exact hlow))
        · exact bad_is hi (bad_alw (by rw [hW]; simp only [alw]; rw [ha] at hlow ⊢; simp; omega))
    · have hf : (n0 / 8 == 30 && (decide (i + 1 < len) && n1 / 64 == 2) && (decide (i + 2 < len) && n2 / 64 == 2) && (decide (i + 3 < len) && n3 / 64 == 2)) = false := by simp; omega
      simp only [hf, Bool.false_eq_true, if_false]
      by_cases kl : i + 3 < len
      · by_cases k1' : n1 / 64 = 2
        · by_cases k2' : n2 / 64 = 2
          · exact bad_is hi (bad_cont (j := 2) (by omega) (by rw [show i + 1 + 2 = i + 3 from rfl, e3]; omega))
          · exact bad_is hi (bad_cont (j := 1) (by omega) (by rw [show i + 1 + 1 = i + 2 from rfl, e2]; omega))
        · exact bad_is hi (bad_cont (j := 0) (by omega) (by rw [Nat.add_zero, e1]; omega))
      · exact bad_is hi (bad_len (by omega))
  have n8 := beq_eq_false_iff_ne.2 c4
  simp only [n8, Bool.false_and, Bool.false_eq_true, if_false]
  exact bad_is hi (bad_wid0 (by unfold wid; (repeat' split) <;> omega))
end Go.Proofs.YtponficlejjafaaDoor

/- Merged: P0, U0, D2. -/
import Derived.Test.YtpdkeggiokebmaaDoorB3
import Derived.Test.YtpdkeggiokebmaaDoorD1
/- Plain arithmetic: lines and columns counted by bytes are those counted by runes, for no rune but 0A has a byte 0A. -/
namespace Go.Proofs.YtpdkeggiokebmaaDoor
set_option linter.unusedSimpArgs false
set_option linter.unusedVariables false

/-- The line by bytes, and the line's first byte. -/
def lnR (g : Nat → Int) : Nat → Int
  | 0 => 1
  | i + 1 => if g i = 10 then lnR g i + 1 else lnR g i
def fsR (g : Nat → Int) : Nat → Nat
  | 0 => 0
  | i + 1 => if g i = 10 then i + 1 else fsR g i
theorem lnR_bd (g : Nat → Int) : ∀ m, 1 ≤ lnR g m ∧ lnR g m ≤ m + 1
  | 0 => by simp [lnR]
  | m + 1 => by have := lnR_bd g m; simp only [lnR]; split <;> omega
theorem fsR_le (g : Nat → Int) : ∀ m, fsR g m ≤ m
  | 0 => Nat.le_refl _
  | m + 1 => by have := fsR_le g m; simp only [fsR]; split <;> omega
theorem ln_same {g : Nat → Int} {a : Nat} : ∀ {b : Nat}, a ≤ b → (∀ j, a ≤ j → j < b → g j ≠ 10) → lnR g b = lnR g a ∧ fsR g b = fsR g a
  | 0, h, _ => by obtain rfl : a = 0 := by omega
                  exact ⟨rfl, rfl⟩
  | b + 1, h, hn => by
    by_cases e : a = b + 1
    · subst e; exact ⟨rfl, rfl⟩
    · have := ln_same (g := g) (a := a) (b := b) (by omega) (fun j h1 h2 => hn j h1 (by omega))
      have hb := hn b (by omega) (by omega)
      simp only [lnR, fsR, if_neg hb]
      exact this

theorem dRune_in {g : Nat → Int} {len i : Nat} (h : i < len) : dRune g len i = if good g len i then acc g i (wid (g i) - 1) else 65533 := by
  have : inside len (i : Int) = true := by simp [inside, h]
  simp [dRune, this]
/-- A byte below 80 is its own rune. -/
theorem small_good {g : Nat → Int} {len i : Nat} (h : i < len) (h0 : 0 ≤ g i) (h1 : g i < 128) : good g len i = true ∧ wid (g i) = 1 ∧ acc g i (wid (g i) - 1) = g i := by
  have hW : wid (g i) = 1 := by unfold wid; (repeat' split) <;> omega
  have hD : dig (g i) = g i := by unfold dig; (repeat' split) <;> omega
  have hL : lst (g i) = 0 := by unfold lst; (repeat' split) <;> omega
  have ha : acc g i (wid (g i) - 1) = g i := by rw [hW]; exact hD
  refine ⟨good_of (by omega) (by omega) (by rw [hW]; rfl) (by rw [ha, hL]; exact h0) (by rw [ha]; simp [alw]; omega), hW, ha⟩
/-- A good first byte of 80 and above tells a rune of 80 and above. -/
theorem big_rune {g : Nat → Int} {len i : Nat} (h1 : 128 ≤ g i) (hg : good g len i = true) : 128 ≤ acc g i (wid (g i) - 1) := by
  obtain ⟨hw, _, _, hl, _⟩ := good_inv hg
  have : 128 ≤ lst (g i) := by
    revert hw
    unfold wid lst
    (repeat' split) <;> omega
  omega
theorem rune_ten {g : Nat → Int} {len i : Nat} (hi : i < len) (h0 : 0 ≤ g i) (hr : dRune g len i = 10) : g i = 10 ∧ stepN g len i = 1 := by
  rw [dRune_in hi] at hr
  by_cases h1 : g i < 128
  · obtain ⟨hg, hw, ha⟩ := small_good hi h0 h1
    rw [if_pos hg, ha] at hr
    exact ⟨hr, by simp [stepN, hi, hg, hw]⟩
  · cases hg : good g len i with
    | false => rw [hg] at hr; simp at hr
    | true => have := big_rune (by omega) hg; rw [if_pos hg] at hr; omega
theorem rune_not_ten {g : Nat → Int} {len i : Nat} (hi : i < len) (h0 : 0 ≤ g i) (hr : dRune g len i ≠ 10) : ∀ j, i ≤ j → j < i + stepN g len i → g j ≠ 10 := by
  intro j hij hj
  rw [dRune_in hi] at hr
  by_cases h1 : g i < 128
  · obtain ⟨hg, hw, ha⟩ := small_good hi h0 h1
    rw [if_pos hg, ha] at hr
    have : stepN g len i = 1 := by simp [stepN, hi, hg, hw]
    obtain rfl : j = i := by omega
    exact hr
  · cases hg : good g len i with
    | false =>
      have : stepN g len i = 1 := by simp [stepN, hi, hg]
      obtain rfl : j = i := by omega
      omega
    | true =>
      have hs : stepN g len i = wid (g i) := by simp [stepN, hi, hg]
      by_cases e : j = i
      · subst e; omega
      · have := conts_lt (good_inv hg).2.2.1 (j - (i + 1)) (by omega)
        rw [show i + 1 + (j - (i + 1)) = j from by omega] at this
        omega

/-- At a rune's place both ways of counting agree; the line begins at a rune. -/
theorem plc_inv {g : Nat → Int} {len : Nat} (h0 : ∀ j, 0 ≤ g j) : ∀ {k}, Before g len k → lnR g (posn g len k) = plcL (upto (endAt g len) k) ∧ ∃ s, s ≤ k ∧ fsR g (posn g len k) = posn g len s ∧ plcC (upto (endAt g len) k) = (k : Int) - s + 1
  | 0, _ => ⟨rfl, 0, Nat.le_refl _, rfl, by simp [plcC, upto]⟩
  | k + 1, hb => by
    have hk : posn g len k < len := hb k (by omega)
    obtain ⟨e1, s, hs, e2, e3⟩ := plc_inv h0 (k := k) fun j hj => hb j (by omega)
    rw [upto_succ, plcL_snoc, plcC_snoc]
    by_cases hr : dRune g len (posn g len k) = 10
    · obtain ⟨t1, t2⟩ := rune_ten hk (h0 _) hr
      have hp : posn g len (k + 1) = posn g len k + 1 := by simp only [posn, t2]
      rw [if_pos (show (endAt g len k).2 = 10 from hr), if_pos (show (endAt g len k).2 = 10 from hr)]
      refine ⟨?_, k + 1, Nat.le_refl _, ?_, by omega⟩
      · rw [hp]; simp only [lnR, if_pos t1, e1]
      · rw [hp]; simp only [fsR, if_pos t1]
    · have hn := rune_not_ten hk (h0 _) hr
      have := ln_same (g := g) (a := posn g len k) (b := posn g len (k + 1)) (by simp only [posn]; omega) (fun j a b => hn j a (by simpa only [posn] using b))
      rw [if_neg (show ¬ (endAt g len k).2 = 10 from hr), if_neg (show ¬ (endAt g len k).2 = 10 from hr)]
      exact ⟨this.1.trans e1, s, by omega, this.2.trans e2, by rw [e3]; omega⟩

/-- At any place q of the k-th rune. -/
theorem plc_at {g : Nat → Int} {len k q : Nat} (h0 : ∀ j, 0 ≤ g j) (hb : Before g len k) (hq : posn g len k ≤ q) (hl : q ≤ len) (he : posn g len k = len ∨ q < posn g len (k + 1)) :
    lnR g q = plcL (upto (endAt g len) k) ∧ ∃ s, s ≤ k ∧ fsR g q = posn g len s ∧ plcC (upto (endAt g len) k) = (k : Int) - s + 1 := by
  obtain ⟨e1, s, hs, e2, e3⟩ := plc_inv h0 hb
  have key : lnR g q = lnR g (posn g len k) ∧ fsR g q = fsR g (posn g len k) := by
    by_cases e : q = posn g len k
    · subst e; exact ⟨rfl, rfl⟩
    · have hk : posn g len k < len := by omega
      have hlt : q < posn g len (k + 1) := by omega
      refine ln_same hq (fun j a b => ?_)
      by_cases hr : dRune g len (posn g len k) = 10
      · have := (rune_ten hk (h0 _) hr).2
        simp only [posn] at hlt
        omega
      · exact rune_not_ten hk (h0 _) hr j a (by simp only [posn] at hlt; omega)
  exact ⟨key.1.trans e1, s, hs, key.2.trans e2, e3⟩
theorem posn_mono {g : Nat → Int} {len : Nat} : ∀ {j k : Nat}, j ≤ k → posn g len j ≤ posn g len k
  | j, 0, h => by obtain rfl : j = 0 := by omega
                  exact Nat.le_refl _
  | j, k + 1, h => by
    by_cases e : j = k + 1
    · subst e; exact Nat.le_refl _
    · have := posn_mono (g := g) (len := len) (j := j) (k := k) (by omega)
      simp only [posn]; omega
theorem posn_strict {g : Nat → Int} {len j k : Nat} (hb : Before g len k) (h : j < k) : posn g len j < posn g len k := by
  have h1 := posn_lt_succ (hb j h)
  have h2 := posn_mono (g := g) (len := len) (j := j + 1) (k := k) (by omega)
  omega
end Go.Proofs.YtpdkeggiokebmaaDoor

/- The language's own decoding of a string (as the model has it) tells the same rune and width as the plain one, at every place. -/
namespace Go.Proofs.YtpdkeggiokebmaaDoor
set_option linter.unusedSimpArgs false
set_option linter.unusedVariables false

theorem gS_get (s : ByteArray) (j : Nat) : gS s j = ((s.get! j).toNat : Int) := by
  unfold gS
  congr 2
  cases s with
  | mk d =>
    show (d[j]?.getD 0) = (ByteArray.get! ⟨d⟩ j)
    simp only [ByteArray.get!]
    rw [getElem!_def]
    cases h : d[j]? <;> simp <;> rfl
theorem get_lt (s : ByteArray) (j : Nat) : (s.get! j).toNat < 256 := (s.get! j).toNat_lt

theorem bad_is {g : Nat → Int} {len i : Nat} (hi : i < len) (h : good g len i = false) : (((65533, 1) : Nat × Nat).1 : Int) = dRune g len i ∧ ((65533, 1) : Nat × Nat).2 = stepN g len i := by
  obtain ⟨e1, _, _⟩ := dBad hi h
  exact ⟨by rw [e1]; rfl, by simp [stepN, hi, h]⟩
theorem good_is {g : Nat → Int} {len i c n : Nat} (hi : i < len) (h : good g len i = true) (hc : (c : Int) = acc g i (wid (g i) - 1)) (hn : n = wid (g i)) : (((c, n) : Nat × Nat).1 : Int) = dRune g len i ∧ ((c, n) : Nat × Nat).2 = stepN g len i := by
  obtain ⟨e1, _, _⟩ := dYes hi h
  exact ⟨hc.trans e1.symm, by simp [stepN, hi, h, hn]⟩

theorem dec_eq (s : ByteArray) (i : Nat) (hi : i < s.size) : ((Utf8.decode s i).1 : Int) = dRune (gS s) s.size i ∧ (Utf8.decode s i).2 = stepN (gS s) s.size i := by
  unfold Utf8.decode
  dsimp only
  have e0 := gS_get s i
  have e1 := gS_get s (i + 1)
  have e2 := gS_get s (i + 2)
  have e3 := gS_get s (i + 3)
  have l0 := get_lt s i
  have l1 := get_lt s (i + 1)
  have l2 := get_lt s (i + 2)
  have l3 := get_lt s (i + 3)
  obtain ⟨n0, q0⟩ : ∃ n, (s.get! i).toNat = n := ⟨_, rfl⟩
  obtain ⟨n1, q1⟩ : ∃ n, (s.get! (i + 1)).toNat = n := ⟨_, rfl⟩
  obtain ⟨n2, q2⟩ : ∃ n, (s.get! (i + 2)).toNat = n := ⟨_, rfl⟩
  obtain ⟨n3, q3⟩ : ∃ n, (s.get! (i + 3)).toNat = n := ⟨_, rfl⟩
  rw [q0] at e0 l0
  rw [q1] at e1 l1
  rw [q2] at e2 l2
  rw [q3] at e3 l3
  simp only [Nat.add_zero, q0, q1, q2, q3]
  clear q0 q1 q2 q3
  revert e0 e1 e2 e3 hi
  obtain ⟨g, hg⟩ : ∃ g, g = gS s := ⟨_, rfl⟩
  obtain ⟨len, hl⟩ : ∃ l, l = s.size := ⟨_, rfl⟩
  rw [← hg, ← hl]
  clear hg hl
  intro hi e0 e1 e2 e3
  by_cases h0 : n0 < 128
  · rw [if_pos h0]
    obtain ⟨hg, hw, ha⟩ := small_good (g := g) hi (by omega) (by omega)
    exact good_is hi hg (by rw [ha, e0]) hw.symm
  rw [if_neg h0]
  by_cases c2 : n0 / 32 = 6
  · have hW : wid (g i) = 2 := by unfold wid; (repeat' split) <;> omega
    have hD : dig (g i) = (n0 : Int) - 192 := by unfold dig; (repeat' split) <;> omega
    have hL : lst (g i) = 128 := by unfold lst; (repeat' split) <;> omega
    have n16 : ¬ n0 / 16 = 14 := by omega
    have n8 : ¬ n0 / 8 = 30 := by omega
    by_cases k1 : i + 1 < len ∧ n1 / 64 = 2
    · have hcn : conts (g) i 1 = true := conts_of_lt fun j hj => by
        obtain rfl : j = 0 := by omega
        rw [Nat.add_zero, e1]; omega
      have ha : acc (g) i 1 = ((n0 % 32 * 64 + n1 % 64 : Nat) : Int) := by simp only [acc, hD, Nat.add_zero, e1]; omega
      simp only [c2, k1, beq_self_eq_true, decide_true, Bool.and_self, if_true]
      split
      · rename_i hc
        refine good_is hi (good_of (by omega) (by omega) (by rw [hW]; exact hcn) (by rw [hW, hL, ha]; omega) (by rw [hW]; simp only [alw, ha]; simp; omega)) (by rw [hW, ha]) hW.symm
      · rename_i hc
        exact bad_is hi (bad_lst (by rw [hW, hL, ha]; omega))
    · have hf : (decide (i + 1 < len) && n1 / 64 == 2) = false := by simp; omega
      simp only [c2, hf, n16, n8, beq_self_eq_true, Bool.and_false, Bool.false_and, beq_eq_false_iff_ne.2 n16, beq_eq_false_iff_ne.2 n8, Bool.false_eq_true, if_false]
      by_cases kl : i + 1 < len
      · exact bad_is hi (bad_cont (j := 0) (by omega) (by rw [Nat.add_zero, e1]; omega))
      · exact bad_is hi (bad_len (by omega))
  have n32 := beq_eq_false_iff_ne.2 c2
  simp only [n32, Bool.false_and, Bool.false_eq_true, if_false]
  by_cases c3 : n0 / 16 = 14
  · have hW : wid (g i) = 3 := by unfold wid; (repeat' split) <;> omega
    have hD : dig (g i) = (n0 : Int) - 224 := by unfold dig; (repeat' split) <;> omega
    have hL : lst (g i) = 2048 := by unfold lst; (repeat' split) <;> omega
    have n8 : ¬ n0 / 8 = 30 := by omega
    by_cases k1 : (i + 1 < len ∧ n1 / 64 = 2) ∧ (i + 2 < len ∧ n2 / 64 = 2)
    · have hcn : conts (g) i 2 = true := conts_of_lt fun j hj => by
        rcases (show j = 0 ∨ j = 1 by omega) with rfl | rfl
        · rw [Nat.add_zero, e1]; omega
        · rw [show i + 1 + 1 = i + 2 from rfl, e2]; omega
      have ha : acc (g) i 2 = ((n0 % 16 * 4096 + n1 % 64 * 64 + n2 % 64 : Nat) : Int) := by simp only [acc, hD, Nat.add_zero, show i + 1 + 1 = i + 2 from rfl, e1, e2]; omega
      simp only [c3, k1, beq_self_eq_true, decide_true, Bool.and_self, if_true]
      split
      · rename_i hc
        simp [Utf8.valid] at hc
        refine good_is hi (good_of (by omega) (by omega) (by rw [hW]; exact hcn) (by rw [hW, hL, ha]; omega) (by rw [hW]; simp only [alw, ha]; simp; omega)) (by rw [hW, ha]) hW.symm
      · rename_i hc
        simp [Utf8.valid] at hc
        by_cases hlow : acc (g) i 2 < 2048
        · exact bad_is hi (bad_lst (by rw [hW, hL]; exact hlow))
        · exact bad_is hi (bad_alw (by rw [hW]; simp only [alw]; rw [ha] at hlow ⊢; simp; omega))
    · have hf : (n0 / 16 == 14 && (decide (i + 1 < len) && n1 / 64 == 2) && (decide (i + 2 < len) && n2 / 64 == 2)) = false := by simp; omega
      simp only [hf, beq_eq_false_iff_ne.2 n8, Bool.false_and, Bool.false_eq_true, if_false]
      by_cases kl : i + 2 < len
      · by_cases k1' : n1 / 64 = 2
        · exact bad_is hi (bad_cont (j := 1) (by omega) (by rw [show i + 1 + 1 = i + 2 from rfl, e2]; omega))
        · exact bad_is hi (bad_cont (j := 0) (by omega) (by rw [Nat.add_zero, e1]; omega))
      · exact bad_is hi (bad_len (by omega))
  have n16 := beq_eq_false_iff_ne.2 c3
  simp only [n16, Bool.false_and, Bool.false_eq_true, if_false]
  by_cases c4 : n0 / 8 = 30
  · have hW : wid (g i) = 4 := by unfold wid; (repeat' split) <;> omega
    have hD : dig (g i) = (n0 : Int) - 240 := by unfold dig; (repeat' split) <;> omega
    have hL : lst (g i) = 65536 := by unfold lst; (repeat' split) <;> omega
    by_cases k1 : (i + 1 < len ∧ n1 / 64 = 2) ∧ (i + 2 < len ∧ n2 / 64 = 2) ∧ (i + 3 < len ∧ n3 / 64 = 2)
    · have hcn : conts (g) i 3 = true := conts_of_lt fun j hj => by
        rcases (show j = 0 ∨ j = 1 ∨ j = 2 by omega) with rfl | rfl | rfl
        · rw [Nat.add_zero, e1]; omega
        · rw [show i + 1 + 1 = i + 2 from rfl, e2]; omega
        · rw [show i + 1 + 2 = i + 3 from rfl, e3]; omega
      have ha : acc (g) i 3 = ((n0 % 8 * 262144 + n1 % 64 * 4096 + n2 % 64 * 64 + n3 % 64 : Nat) : Int) := by simp only [acc, hD, Nat.add_zero, show i + 1 + 1 = i + 2 from rfl, show i + 1 + 2 = i + 3 from rfl, e1, e2, e3]; omega
      simp only [c4, k1, beq_self_eq_true, decide_true, Bool.and_self, if_true]
      split
      · rename_i hc
        simp [Utf8.valid] at hc
        refine good_is hi (good_of (by omega) (by omega) (by rw [hW]; exact hcn) (by rw [hW, hL, ha]; omega) (by rw [hW]; simp only [alw, ha]; simp; omega)) (by rw [hW, ha]) hW.symm
      · rename_i hc
        simp [Utf8.valid] at hc
        by_cases hlow : acc (g) i 3 < 65536
        · exact bad_is hi (bad_lst (by rw [hW, hL]; exact hlow))
        · exact bad_is hi (bad_alw (by rw [hW]; simp only [alw]; rw [ha] at hlow ⊢; simp; omega))
    · have hf : (n0 / 8 == 30 && (decide (i + 1 < len) && n1 / 64 == 2) && (decide (i + 2 < len) && n2 / 64 == 2) && (decide (i + 3 < len) && n3 / 64 == 2)) = false := by simp; omega
      simp only [hf, Bool.false_eq_true, if_false]
      by_cases kl : i + 3 < len
      · by_cases k1' : n1 / 64 = 2
        · by_cases k2' : n2 / 64 = 2
          · exact bad_is hi (bad_cont (j := 2) (by omega) (by rw [show i + 1 + 2 = i + 3 from rfl, e3]; omega))
          · exact bad_is hi (bad_cont (j := 1) (by omega) (by rw [show i + 1 + 1 = i + 2 from rfl, e2]; omega))
        · exact bad_is hi (bad_cont (j := 0) (by omega) (by rw [Nat.add_zero, e1]; omega))
      · exact bad_is hi (bad_len (by omega))
  have n8 := beq_eq_false_iff_ne.2 c4
  simp only [n8, Bool.false_and, Bool.false_eq_true, if_false]
  exact bad_is hi (bad_wid0 (by unfold wid; (repeat' split) <;> omega))
end Go.Proofs.YtpdkeggiokebmaaDoor

/- text.Quote again, in memory that holds the listed tables. -/
namespace Go.Proofs.YtpdkeggiokebmaaDoor
set_option linter.unusedSimpArgs false
set_option linter.unusedVariables false
open Go.RowKit Go.Shelf

attribute [local go_sem] Oper.semAt_some
set_option maxRecDepth 100000 in
set_option maxHeartbeats 2000000 in
theorem quote_inL (s : ByteArray) (w : World) (hs : s.size ≤ 4294967296) (R : Nat × Int → Prop) (hR : ∀ k, posn (gS s) s.size k < s.size → R (endAt (gS s) s.size k)) (quo : Int → List UInt8) (hql : ∀ x, R x → (quo x.2).length ≤ 16)
    (hq : ∀ x, R x → ∀ W : World, Below w.heap.size w W → Calls Tryd.prog 29 #[.int .i32 x.2] W fun e w' => e = .returned (.string ⟨(quo x.2).toArray⟩) ∧ Below W.heap.size W w') :
    CallsIn Fence.wide 6 Tryd.prog 19 #[.string s] w fun e w' => (∃ m, Runes (gS s) s.size m ∧ e = .returned (.string ⟨(34 :: flat quo (upto (endAt (gS s) s.size) m) ++ [34]).toArray⟩)) ∧ Below w.heap.size w w' := by
  have HQ := hide hq
  have HQL := hide hql
  have HR := hide hR
  clear hq hql hR
  refine callsIn_of_wp_marks Tryd.func19 rfl trivial ?_ rfl
  simp only [Tryd.ntmps19, List.size_toArray, List.length_cons, List.length_nil, Nat.reduceAdd, Nat.reduceSub, Array.replicate_succ, Array.replicate_zero, List.push_toArray, List.append_toArray, List.nil_append, List.cons_append]
  have hfr : BAt w.heap.size w.heap.size (.pointer none) (.slice none 0 0) [] (w.alloc (.cells #[.pointer none, .slice none 0 0] 52)) := ⟨Nat.le_refl _, World.alloc_heap_new w _, World.ownsRow_nil _ _ _ _, by simp [Value.ownBlock]⟩
  gi_wp2_with (refine ⟨trivial, ?_⟩; gi_at_call 26; refine (callsIn_wide.2 (wb_any w.heap.size w.heap.size _ _ [] 34 _ (.inl rfl) hfr (by simp) (by simp))).mono ?_; rintro e w1 ⟨rfl, v1, hb1, _, hB1⟩)
  have hw1 := hb1.lt
  have hB1' : Below w.heap.size w w1 := ((Below.refl _ w).alloc (Nat.le_refl _) _).trans hB1
  have HV1 : Hid (∀ k, w1.heap.size ≤ k → v1.ownBlock ≠ some k) := fun k hk e => by have := (hb1.2.2.1.lt k e).2; omega
  obtain ⟨cap, C, fr, hcv, hcap, hcm, hC⟩ := conv_str s w1 hs
  rw [hcv]
  simp only [Result.andThen]
  rw [Oper.uponIn_value]
  gi_wp2_with (refine ⟨trivial, ?_⟩; gi_at_call 27; refine (ends_in _ _ _ _ _).mono ?_; rintro e w' ⟨rfl, rfl⟩)
  obtain ⟨W0, hW0⟩ : ∃ W0, ((w1.alloc (.cells C 5 fr)).alloc (.cells #[.slice (some ⟨w1.heap.size, 0, none⟩) s.size cap] 22)).drew = W0 := ⟨_, rfl⟩
  have hsz : W0.heap.size = w1.heap.size + 1 + 1 := by rw [← hW0]; simp
  have hbx : Boxed W0 (w1.heap.size + 1) 22 (.slice (some ⟨w1.heap.size, 0, none⟩) s.size cap) := by
    have := Boxed.new (w1.alloc (.cells C 5 fr)) 22 (.slice (some ⟨w1.heap.size, 0, none⟩) s.size cap)
    rw [World.size_alloc] at this
    rw [← hW0]; exact this
  have hBW : Below w1.heap.size w1 W0 := by rw [← hW0]; exact (((Below.refl _ w1).alloc (Nat.le_refl _) _).alloc (by simp) _).drew
  have hcC : ∀ j, j < s.size → W0.cell? ⟨w1.heap.size, 0 + j, none⟩ = some (.int .u8 (gS s j)) := fun j hj => by
    have h1 : W0.heap[w1.heap.size]? = some (.cells C 5 fr) := by
      rw [← hW0]; exact (Below.heap_alloc (w1.alloc (.cells C 5 fr)) _ _ (by simp)).trans (World.alloc_heap_new w1 _)
    rw [Lib.cell_of_heap h1, Nat.zero_add]; exact hC j hj
  rw [hW0]
  have hSl : Sl W0 w1.heap.size (.slice (some ⟨w1.heap.size, 0, none⟩) s.size cap) s.size (gS s) := by
    by_cases h0 : s.size = 0
    · exact .inl ⟨_, _, by rw [h0], h0⟩
    · exact .inr ⟨0, cap, rfl, by omega, hcap, hcm, hcC⟩
  have hB0 : BAt w.heap.size w.heap.size (.pointer (some ⟨w.heap.size, 0, none⟩)) v1 (Lib.byteCells [34]) W0 := hb1.below hBW
  clear hW0 hcC hC hcv
  refine wpIn_rangeFunc_ownF rfl (by omega) (gf := 37) (lb := #[.pointer (some ⟨w1.heap.size + 1, 0, none⟩)]) rfl trivial (enters_of Tryd.func37 (by kernel_rfl) rfl)
    (ends_stopsR (6 - 1) (by omega) (w1.heap.size + 1) w1.heap.size (.slice (some ⟨w1.heap.size, 0, none⟩) s.size cap) s.size (gS s) (gS_bd s) W0 (by omega) (by omega) hbx.cell hSl R (unhide HR)) (fun h k => h.trans k) (keepS_b (fun k hk => by rcases hk with rfl | rfl <;> omega)) (Below.refl _ _) (fun _ => rfl)
    (QuI quo w (w1.heap.size + 1) w1.heap.size) (fun _ _ _ => False) (quI_own quo w _ _ _ (by omega)) (fun _ _ _ _ _ hs _ _ => hs)
    ⟨v1, ⟨hB0, unhide HV1 _ (by omega), unhide HV1 _ (by omega), by omega⟩, hB1'.trans (hBW.mono (by omega))⟩
    (fun x => { tmps := #[.string s, undef, .string { data := #[] }, .pointer (some ⟨w.heap.size, 0, none⟩), undef, .int .i32 x.1.2, .nilIface, .string s, .slice (some ⟨w1.heap.size, 0, none⟩) s.size cap, .func (.func 37) #[] #[.pointer (some ⟨w1.heap.size + 1, 0, none⟩)], .int .i64 x.1.1, .int .i32 x.1.2, undef, undef, undef, undef, undef], defers := [] }) ?assign ?body ?done ?stop
  case assign =>
    intro l x W K hK
    gi_wp2
    exact hK
  case body =>
    rintro l pre ⟨⟨xe, xr⟩, hx⟩ W ⟨v, ⟨hBA, hn1, hn2, hc1⟩, hB⟩ hlt
    have hbs : (Lib.byteCells (34 :: flat quo (pre.map (·.1)))).length + (quo xr).length ≤ 140737488355328 := by
      have h1 := flat_le (quo := quo) (l := pre.map (·.1)) (fun y hy => by obtain ⟨z, hz, rfl⟩ := List.mem_map.1 hy; exact unhide HQL z.1 z.2)
      have h2 := unhide HQL (xe, xr) hx
      rw [Lib.byteCells_length]
      simp only [List.length_map] at h1
      simp only [List.length_cons] at *
      omega
    have HBS := hide hbs
    clear hbs
    have hH := hide (unhide HQ (xe, xr) hx W hB)
    clear HQ
    gi_wp2_with (refine ⟨trivial, ?_⟩; gi_at_call 29; refine (CallsIn.inRound l (callsIn_wide.2 (unhide hH))).mono ?_; rintro e W2 ⟨rfl, hb2⟩)
    have hBA2 := hBA.below hb2
    have hAW : w.heap.size ≤ W.heap.size := hB.size
    have hAW2 : w.heap.size ≤ W2.heap.size := Nat.le_trans hAW hb2.size
    refine ⟨trivial, ?_⟩
    refine (CallsIn.inRound l (callsIn_wide.2 (ws_any w.heap.size w.heap.size _ v _ ⟨(quo xr).toArray⟩ W2 (.inr rfl) hBA2 (by have := unhide HBS; simpa [ByteArray.size] using this) hAW2))).mono ?_
    rintro e W3 ⟨rfl, v', hB3, hk3, hwh, hbl3⟩
    gi_wp2
    have hks : KeepS (fun k => k = w1.heap.size + 1 ∨ k = w1.heap.size) W W3 := by
      intro k hk
      have hkl : k < W.heap.size := by rcases hk with rfl | rfl <;> omega
      have hks := hb2.size
      rw [hk3 k (by omega) (by rcases hk with rfl | rfl <;> omega) (by rcases hk with rfl | rfl <;> assumption), hb2.block k hkl]
    have hfl : Lib.byteCells (34 :: flat quo (pre.map (·.1))) ++ Lib.strCells ⟨(quo xr).toArray⟩ = Lib.byteCells (34 :: flat quo ((pre ++ [(⟨(xe, xr), hx⟩ : { x : Nat × Int // R x })]).map (·.1))) := by
      simp [Lib.byteCells, Lib.strCells, flat]
    rw [hfl] at hB3
    have hks2 := hb2.size
    refine ⟨(others_of_below hb2).trans (KeptB.others hBA2 hk3 hbl3.size), hks, v', ⟨hB3, ?_, ?_, ?_⟩, (hB.trans (hb2.mono hAW)).trans hbl3⟩
    · intro e; rcases hwh _ e with h | h
      · exact hn1 h
      · omega
    · intro e; rcases hwh _ e with h | h
      · exact hn2 h
      · omega
    · have := hbl3.size; omega
  case done =>
    rintro D ys W hD ⟨m, hm, hys⟩ ⟨v, ⟨hBA, _, _, _⟩, hB⟩ hK
    have hlen : (Lib.byteCells (34 :: flat quo (ys.map (·.1)))).length + 1 ≤ 140737488355328 := by
      have h1 := flat_le (quo := quo) (l := ys.map (·.1)) (fun y hy => by obtain ⟨z, hz, rfl⟩ := List.mem_map.1 hy; exact unhide HQL z.1 z.2)
      have h2 := hm.le
      rw [Lib.byteCells_length]
      rw [hys] at h1 ⊢
      rw [upto_length] at h1
      simp only [List.length_cons] at *
      omega
    have hAW : w.heap.size ≤ W.heap.size := hB.size
    have HL := hide hlen
    clear hlen
    gi_wp2_with (refine ⟨trivial, ?_⟩; gi_at_call 26; refine (callsIn_wide.2 (wb_any w.heap.size w.heap.size _ _ _ 34 _ (.inr rfl) hBA (unhide HL) hAW)).mono ?_; rintro e W2 ⟨rfl, v2, hb2, hk2, hB2⟩)
    have hcell : Lib.byteCells (34 :: flat quo (ys.map (·.1))) ++ [.int .u8 34] = Lib.byteCells (34 :: flat quo (ys.map (·.1)) ++ [34]) := by simp [Lib.byteCells]
    rw [hcell] at hb2
    have hAW2 : w.heap.size ≤ W2.heap.size := Nat.le_trans hAW hB2.size
    have hK2 := (KeptB.others hBA hk2 hB2.size).same D _ hK rfl
    clear hcell
    refine ⟨trivial, ?_⟩
    refine (callsIn_wide.2 (Tryd.Builder_String_k w.heap.size w.heap.size _ W2 (.inr hb2.is) hAW2)).mono ?_
    rintro e W3 ⟨rfl, hB3, hO3⟩
    have hK3 : W3.heap[D]? = some (.deferred (some [])) := hO3 D _ hK2 (by intro e; have := Option.some.inj e; subst this; rw [hb2.2.1] at hK2; cases hK2) (by intro c fz e; cases e)
    gi_wp2
    refine ⟨by simp, .inl ⟨_, _, rfl, run_takeDeferred hK3, ?_⟩⟩
    refine ⟨_, results_tmp rfl _ _ _, ⟨m, hm, ?_⟩, ?_⟩
    · rw [← hys]; rfl
    · exact (hB.trans (hB2.trans hB3)).trans (belowK_b (w := w) (Nat.le_refl _) _ D _ (.deferred none) (by omega) hK3 rfl rfl)
  case stop =>
    rintro D c pre W _ _ h _
    exact h.elim
end Go.Proofs.YtpdkeggiokebmaaDoor

/- Plain arithmetic: lines and columns counted by bytes are those counted by runes, for no rune but 0A has a byte 0A. -/
import Derived.Test.YtponficlejjafaaDoorB3
namespace Go.Proofs.YtponficlejjafaaDoor
set_option linter.unusedSimpArgs false
set_option linter.unusedVariables false

/-- The line by bytes, and the line's first byte. -/
def lnR (g : Nat → Int) : Nat → Int
  | 0 => 1
  | i + 1 => if g i = 10 then lnR g i + 1 else lnR g i
def fsR (g : Nat → Int) : Nat → Nat
  | 0 => 0
  | i + 1 => if g i = 10 then i + 1 else fsR g i
theorem lnR_bd (g : Nat → Int) : ∀ m, 1 ≤ lnR g m ∧ lnR g m ≤ m + 1
  | 0 => by simp [lnR]
  | m + 1 => by have := lnR_bd g m; simp only [lnR]; split <;> omega
theorem fsR_le (g : Nat → Int) : ∀ m, fsR g m ≤ m
  | 0 => Nat.le_refl _
  | m + 1 => by have := fsR_le g m; simp only [fsR]; split <;> omega
theorem ln_same {g : Nat → Int} {a : Nat} : ∀ {b : Nat}, a ≤ b → (∀ j, a ≤ j → j < b → g j ≠ 10) → lnR g b = lnR g a ∧ fsR g b = fsR g a
  | 0, h, _ => by obtain rfl : a = 0 := by omega
                  exact ⟨rfl, rfl⟩
  | b + 1, h, hn => by
    by_cases e : a = b + 1
    · subst e; exact ⟨rfl, rfl⟩
    · have := ln_same (g := g) (a := a) (b := b) (by omega) (fun j h1 h2 => hn j h1 (by omega))
      have hb := hn b (by omega) (by omega)
      simp only [lnR, fsR, if_neg hb]
      exact this

theorem dRune_in {g : Nat → Int} {len i : Nat} (h : i < len) : dRune g len i = if good g len i then acc g i (wid (g i) - 1) else 65533 := by
  have : inside len (i : Int) = true := by simp [inside, h]
  simp [dRune, this]
/-- A byte below 80 is its own rune. -/
theorem small_good {g : Nat → Int} {len i : Nat} (h : i < len) (h0 : 0 ≤ g i) (h1 : g i < 128) : good g len i = true ∧ wid (g i) = 1 ∧ acc g i (wid (g i) - 1) = g i := by
  have hW : wid (g i) = 1 := by unfold wid; (repeat' split) <;> omega
  have hD : dig (g i) = g i := by unfold dig; (repeat' split) <;> omega
  have hL : lst (g i) = 0 := by unfold lst; (repeat' split) <;> omega
  have ha : acc g i (wid (g i) - 1) = g i := by rw [hW]; exact hD
  refine ⟨good_of (by omega) (by omega) (by rw [hW]; rfl) (by rw [ha, hL]; exact h0) (by rw [ha]; simp [alw]; omega), hW, ha⟩
/-- A good first byte of 80 and above tells a rune of 80 and above. -/
theorem big_rune {g : Nat → Int} {len i : Nat} (h1 : 128 ≤ g i) (hg : good g len i = true) : 128 ≤ acc g i (wid (g i) - 1) := by
  obtain ⟨hw, _, _, hl, _⟩ := good_inv hg
  have : 128 ≤ lst (g i) := by
    revert hw
    unfold wid lst
    (repeat' split) <;> omega
  omega
theorem rune_ten {g : Nat → Int} {len i : Nat} (hi : i < len) (h0 : 0 ≤ g i) (hr : dRune g len i = 10) : g i = 10 ∧ stepN g len i = 1 := by
  rw [dRune_in hi] at hr
  by_cases h1 : g i < 128
  · obtain ⟨hg, hw, ha⟩ := small_good hi h0 h1
    rw [if_pos hg, ha] at hr
    exact ⟨hr, by simp [stepN, hi, hg, hw]⟩
  · cases hg : good g len i with
    | false => rw [hg] at hr; simp at hr
    | true => have := big_rune (by omega) hg; rw [if_pos hg] at hr; omega
theorem rune_not_ten {g : Nat → Int} {len i : Nat} (hi : i < len) (h0 : 0 ≤ g i) (hr : dRune g len i ≠ 10) : ∀ j, i ≤ j → j < i + stepN g len i → g j ≠ 10 := by
  intro j hij hj
  rw [dRune_in hi] at hr
  by_cases h1 : g i < 128
  · obtain ⟨hg, hw, ha⟩ := small_good hi h0 h1
    rw [if_pos hg, ha] at hr
    have : stepN g len i = 1 := by simp [stepN, hi, hg, hw]
    obtain rfl : j = i := by omega
    exact hr
  · cases hg : good g len i with
    | false =>
      have : stepN g len i = 1 := by simp [stepN, hi, hg]
      obtain rfl : j = i := by omega
      omega
    | true =>
      have hs : stepN g len i = wid (g i) := by simp [stepN, hi, hg]
      by_cases e : j = i
      · subst e; omega
      · have := conts_lt (good_inv hg).2.2.1 (j - (i + 1)) (by omega)
        rw [show i + 1 + (j - (i + 1)) = j from by omega] at this
        omega

/-- At a rune's place both ways of counting agree; the line begins at a rune. -/
theorem plc_inv {g : Nat → Int} {len : Nat} (h0 : ∀ j, 0 ≤ g j) : ∀ {k}, Before g len k → lnR g (posn g len k) = plcL (upto (endAt g len) k) ∧ ∃ s, s ≤ k ∧ fsR g (posn g len k) = posn g len s ∧ plcC (upto (endAt g len) k) = (k : Int) - s + 1
  | 0, _ => ⟨rfl, 0, Nat.le_refl _, rfl, by simp [plcC, upto]⟩
  | k + 1, hb => by
    have hk : posn g len k < len := hb k (by omega)
    obtain ⟨e1, s, hs, e2, e3⟩ := plc_inv h0 (k := k) fun j hj => hb j (by omega)
    rw [upto_succ, plcL_snoc, plcC_snoc]
    by_cases hr : dRune g len (posn g len k) = 10
    · obtain ⟨t1, t2⟩ := rune_ten hk (h0 _) hr
      have hp : posn g len (k + 1) = posn g len k + 1 := by simp only [posn, t2]
      rw [if_pos (show (endAt g len k).2 = 10 from hr), if_pos (show (endAt g len k).2 = 10 from hr)]
      refine ⟨?_, k + 1, Nat.le_refl _, ?_, by omega⟩
      · rw [hp]; simp only [lnR, if_pos t1, e1]
      · rw [hp]; simp only [fsR, if_pos t1]
    · have hn := rune_not_ten hk (h0 _) hr
      have := ln_same (g := g) (a := posn g len k) (b := posn g len (k + 1)) (by simp only [posn]; omega) (fun j a b => hn j a (by simpa only [posn] using b))
      rw [if_neg (show ¬ (endAt g len k).2 = 10 from hr), if_neg (show ¬ (endAt g len k).2 = 10 from hr)]
      exact ⟨this.1.trans e1, s, by omega, this.2.trans e2, by rw [e3]; omega⟩

/-- At any place q of the k-th rune. -/
theorem plc_at {g : Nat → Int} {len k q : Nat} (h0 : ∀ j, 0 ≤ g j) (hb : Before g len k) (hq : posn g len k ≤ q) (hl : q ≤ len) (he : posn g len k = len ∨ q < posn g len (k + 1)) :
    lnR g q = plcL (upto (endAt g len) k) ∧ ∃ s, s ≤ k ∧ fsR g q = posn g len s ∧ plcC (upto (endAt g len) k) = (k : Int) - s + 1 := by
  obtain ⟨e1, s, hs, e2, e3⟩ := plc_inv h0 hb
  have key : lnR g q = lnR g (posn g len k) ∧ fsR g q = fsR g (posn g len k) := by
    by_cases e : q = posn g len k
    · subst e; exact ⟨rfl, rfl⟩
    · have hk : posn g len k < len := by omega
      have hlt : q < posn g len (k + 1) := by omega
      refine ln_same hq (fun j a b => ?_)
      by_cases hr : dRune g len (posn g len k) = 10
      · have := (rune_ten hk (h0 _) hr).2
        simp only [posn] at hlt
        omega
      · exact rune_not_ten hk (h0 _) hr j a (by simp only [posn] at hlt; omega)
  exact ⟨key.1.trans e1, s, hs, key.2.trans e2, e3⟩
theorem posn_mono {g : Nat → Int} {len : Nat} : ∀ {j k : Nat}, j ≤ k → posn g len j ≤ posn g len k
  | j, 0, h => by obtain rfl : j = 0 := by omega
                  exact Nat.le_refl _
  | j, k + 1, h => by
    by_cases e : j = k + 1
    · subst e; exact Nat.le_refl _
    · have := posn_mono (g := g) (len := len) (j := j) (k := k) (by omega)
      simp only [posn]; omega
theorem posn_strict {g : Nat → Int} {len j k : Nat} (hb : Before g len k) (h : j < k) : posn g len j < posn g len k := by
  have h1 := posn_lt_succ (hb j h)
  have h2 := posn_mono (g := g) (len := len) (j := j + 1) (k := k) (by omega)
  omega
end Go.Proofs.YtponficlejjafaaDoor

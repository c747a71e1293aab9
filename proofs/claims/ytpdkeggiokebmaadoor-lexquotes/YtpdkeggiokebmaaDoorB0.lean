/- Plain arithmetic: the places of the runes of a row of bytes, one behind the other. -/
import Derived.Test.YtpdkeggiokebmaaDoorA0
namespace Go.Proofs.YtpdkeggiokebmaaDoor
set_option linter.unusedSimpArgs false
set_option linter.unusedVariables false

/-- How many bytes the rune at a place has (1 of a bad byte; 0 outside). -/
def stepN (g : Nat → Int) (len i : Nat) : Nat := if i < len then (if good g len i then wid (g i) else 1) else 0
theorem dSize_nat (g : Nat → Int) (len i : Nat) : dSize g len i = (stepN g len i : Int) := by
  unfold dSize stepN
  by_cases h : i < len
  · have : inside len (i : Int) = true := by simp [inside, h]
    cases hg : good g len i <;> simp [this, h, hg]
  · have : inside len (i : Int) = false := by simp [inside]; omega
    simp [this, h]
theorem step_pos {g : Nat → Int} {len i : Nat} (h : i < len) : 1 ≤ stepN g len i := by
  unfold stepN
  cases hg : good g len i with
  | false => simp [h]
  | true => have := (good_inv hg).1; simp [h]; omega
theorem step_le {g : Nat → Int} {len i : Nat} (h : i ≤ len) : i + stepN g len i ≤ len := by
  unfold stepN
  by_cases h' : i < len
  · cases hg : good g len i with
    | false => simp [h']; omega
    | true => have := (good_inv hg).2.1; simp [h']; omega
  · simp [h']; omega
theorem step_le4 (g : Nat → Int) (len i : Nat) : stepN g len i ≤ 4 := by
  unfold stepN
  have := wid_le (g i)
  (repeat' split) <;> omega
/-- The place of the k-th rune. -/
def posn (g : Nat → Int) (len : Nat) : Nat → Nat
  | 0 => 0
  | k + 1 => posn g len k + stepN g len (posn g len k)
theorem posn_le (g : Nat → Int) (len : Nat) : ∀ k, posn g len k ≤ len
  | 0 => Nat.zero_le _
  | k + 1 => step_le (posn_le g len k)
/-- As long as no place before is the end, the k-th place is at least k. -/
theorem posn_ge {g : Nat → Int} {len : Nat} : ∀ {k}, (∀ j, j < k → posn g len j < len) → k ≤ posn g len k
  | 0, _ => Nat.zero_le _
  | k + 1, h => by
    have h1 := posn_ge (k := k) fun j hj => h j (by omega)
    have h2 := step_pos (g := g) (h k (by omega))
    simp only [posn]; omega
theorem posn_lt_succ {g : Nat → Int} {len k : Nat} (h : posn g len k < len) : posn g len k < posn g len (k + 1) := by
  have := step_pos (g := g) h
  simp only [posn]; omega
/-- The k-th rune: the byte behind it, and the rune. -/
def endAt (g : Nat → Int) (len k : Nat) : Nat × Int := (posn g len (k + 1), dRune g len (posn g len k))
/-- What has come when k rounds are over. -/
def upto {α : Type} (f : Nat → α) (k : Nat) : List α := (List.range k).map f
theorem upto_succ {α : Type} (f : Nat → α) (k : Nat) : upto f (k + 1) = upto f k ++ [f k] := by simp [upto, List.range_succ]
theorem upto_length {α : Type} (f : Nat → α) (k : Nat) : (upto f k).length = k := by simp [upto]
/-- The runes of the text: k of them are before its end. -/
def Before (g : Nat → Int) (len k : Nat) : Prop := ∀ j, j < k → posn g len j < len
/-- The text has n runes. -/
def Runes (g : Nat → Int) (len n : Nat) : Prop := posn g len n = len ∧ Before g len n
theorem Before.succ {g : Nat → Int} {len k : Nat} (h : Before g len k) (hk : posn g len k < len) : Before g len (k + 1) := fun j hj => by
  by_cases e : j = k
  · subst e; exact hk
  · exact h j (by omega)
theorem Runes.unique {g : Nat → Int} {len n m : Nat} (h : Runes g len n) (h' : Runes g len m) : n = m := by
  rcases Nat.lt_trichotomy n m with c | c | c
  · have := h'.2 n c; have := h.1; omega
  · exact c
  · have := h.2 m c; have := h'.1; omega
theorem runes_exist (g : Nat → Int) (len : Nat) : ∃ n, Runes g len n ∧ n ≤ len := by
  have key : ∀ k, Before g len k ∨ ∃ n, n < k ∧ Runes g len n := by
    intro k
    induction k with
    | zero => exact .inl fun j hj => by omega
    | succ k ih =>
      rcases ih with h | ⟨n, h1, h2⟩
      · by_cases e : posn g len k < len
        · exact .inl (h.succ e)
        · exact .inr ⟨k, by omega, by have := posn_le g len k; omega, h⟩
      · exact .inr ⟨n, by omega, h2⟩
  rcases key (len + 1) with h | ⟨n, h1, h2⟩
  · have := posn_ge h; have := posn_le g len (len + 1); omega
  · exact ⟨n, h2, by omega⟩
theorem Runes.le {g : Nat → Int} {len n : Nat} (h : Runes g len n) : n ≤ len := by have := posn_ge h.2; have := posn_le g len n; omega
end Go.Proofs.YtpdkeggiokebmaaDoor

/- UTF-8 over a row of bytes, plainly; the model's decoding of a string tells the same. -/
import Derived.Test.YtdgocaokmmhenaaGreatDoorVH
namespace Go.Proofs.YtdgocaokmmhenaaGreatDoor
set_option linter.unusedSimpArgs false
set_option linter.unusedVariables false

/-- How many bytes a first byte asks for (0: none begins there). -/
def wid (x : Int) : Nat := if x < 128 then 1 else if x < 192 then 0 else if x < 224 then 2 else if x < 240 then 3 else if x < 248 then 4 else 0
/-- The digits in a first byte. -/
def dig (x : Int) : Int := if x < 128 then x else if x < 192 then 0 else if x < 224 then x - 192 else if x < 240 then x - 224 else if x < 248 then x - 240 else 0
/-- The least rune of that many bytes. -/
def lst (x : Int) : Int := if x < 128 then 0 else if x < 192 then 0 else if x < 224 then 128 else if x < 240 then 2048 else if x < 248 then 65536 else 0
/-- The digits gathered of the first byte at i and of k more. -/
def acc (g : Nat → Int) (i : Nat) : Nat → Int
  | 0 => dig (g i)
  | k + 1 => acc g i k * 64 + (g (i + 1 + k) - 128)
/-- The k bytes behind i are all of the form 10xxxxxx. -/
def conts (g : Nat → Int) (i : Nat) : Nat → Bool
  | 0 => true
  | k + 1 => conts g i k && decide (128 ≤ g (i + 1 + k) ∧ g (i + 1 + k) ≤ 191)
/-- Digits that are a rune. -/
def alw (r : Int) : Bool := decide (r < 55296 ∨ (57343 < r ∧ r ≤ 1114111))
/-- Does a rune begin at i? -/
def good (g : Nat → Int) (len i : Nat) : Bool :=
  decide (wid (g i) ≠ 0) && decide (i + wid (g i) ≤ len) && conts g i (wid (g i) - 1) && decide (lst (g i) ≤ acc g i (wid (g i) - 1)) && alw (acc g i (wid (g i) - 1))
/-- The place is within the text. -/
def inside (len : Nat) (at' : Int) : Bool := decide (0 ≤ at' ∧ at' < len)
def dRune (g : Nat → Int) (len : Nat) (at' : Int) : Int := if inside len at' then (if good g len at'.toNat then acc g at'.toNat (wid (g at'.toNat) - 1) else 65533) else 0
def dSize (g : Nat → Int) (len : Nat) (at' : Int) : Int := if inside len at' then (if good g len at'.toNat then (wid (g at'.toNat) : Int) else 1) else 0
def dGood (g : Nat → Int) (len : Nat) (at' : Int) : Bool := inside len at' && good g len at'.toNat

theorem wid_le (x : Int) : wid x ≤ 4 := by unfold wid; repeat' split
                                           all_goals omega
theorem dig_bd (x : Int) (h0 : 0 ≤ x) : 0 ≤ dig x ∧ dig x < 128 := by unfold dig; repeat' split
                                                                      all_goals omega
theorem conts_lt {g : Nat → Int} {i k : Nat} (h : conts g i k = true) : ∀ j, j < k → 128 ≤ g (i + 1 + j) ∧ g (i + 1 + j) ≤ 191 := by
  induction k with
  | zero => intro j hj; omega
  | succ k ih =>
    intro j hj
    simp only [conts, Bool.and_eq_true, decide_eq_true_eq] at h
    by_cases e : j = k
    · subst e; exact h.2
    · exact ih h.1 j (by omega)
theorem conts_of_lt {g : Nat → Int} {i : Nat} : ∀ {k : Nat}, (∀ j, j < k → 128 ≤ g (i + 1 + j) ∧ g (i + 1 + j) ≤ 191) → conts g i k = true
  | 0, _ => rfl
  | k + 1, h => by
    simp only [conts, Bool.and_eq_true, decide_eq_true_eq]
    exact ⟨conts_of_lt fun j hj => h j (by omega), h k (by omega)⟩
/-- Gathered digits keep below 128 times 64 to the rounds. -/
theorem acc_bd {g : Nat → Int} {i : Nat} (h0 : 0 ≤ g i) : ∀ {k : Nat}, conts g i k = true → 0 ≤ acc g i k ∧ acc g i k < 128 * 64 ^ k
  | 0, _ => by simpa [acc] using dig_bd _ h0
  | k + 1, h => by
    simp only [conts, Bool.and_eq_true, decide_eq_true_eq] at h
    have := acc_bd h0 h.1
    simp only [acc]
    have e : (128 : Int) * 64 ^ (k + 1) = 128 * 64 ^ k * 64 := by rw [Int.pow_succ, Int.mul_assoc]
    rw [e]
    omega
theorem acc_lt {g : Nat → Int} {i : Nat} (h0 : 0 ≤ g i) {k : Nat} (hk : k ≤ 3) (h : conts g i k = true) : 0 ≤ acc g i k ∧ acc g i k < 33554432 := by
  have := acc_bd h0 h
  match k, hk with
  | 0, _ => simp at this; omega
  | 1, _ => simp at this; omega
  | 2, _ => simp at this; omega
  | 3, _ => simp at this; omega
theorem acc_lt2 {g : Nat → Int} {i : Nat} (h0 : 0 ≤ g i) {k : Nat} (hk : k ≤ 2) (h : conts g i k = true) : 0 ≤ acc g i k ∧ acc g i k < 524288 := by
  have := acc_bd h0 h
  match k, hk with
  | 0, _ => simp at this; omega
  | 1, _ => simp at this; omega
  | 2, _ => simp at this; omega

theorem dOut {len : Nat} {at' : Int} (h : inside len at' = false) (g : Nat → Int) : dRune g len at' = 0 ∧ dSize g len at' = 0 ∧ dGood g len at' = false := by
  simp [dRune, dSize, dGood, h]
theorem dBad {g : Nat → Int} {len i : Nat} (hi : i < len) (h : good g len i = false) : dRune g len i = 65533 ∧ dSize g len i = 1 ∧ dGood g len i = false := by
  have : inside len (i : Int) = true := by simp [inside, hi]
  simp [dRune, dSize, dGood, this, h]
theorem dYes {g : Nat → Int} {len i : Nat} (hi : i < len) (h : good g len i = true) : dRune g len i = acc g i (wid (g i) - 1) ∧ dSize g len i = wid (g i) ∧ dGood g len i = true := by
  have : inside len (i : Int) = true := by simp [inside, hi]
  simp [dRune, dSize, dGood, this, h]
theorem bad_wid0 {g : Nat → Int} {len i : Nat} (h : wid (g i) = 0) : good g len i = false := by simp [good, h]
theorem bad_len {g : Nat → Int} {len i : Nat} (h : len < i + wid (g i)) : good g len i = false := by simp [good]; omega
theorem bad_cont {g : Nat → Int} {len i j : Nat} (hj : j < wid (g i) - 1) (h : ¬ (128 ≤ g (i + 1 + j) ∧ g (i + 1 + j) ≤ 191)) : good g len i = false := by
  have : conts g i (wid (g i) - 1) = false := by
    cases e : conts g i (wid (g i) - 1) with
    | false => rfl
    | true => exact absurd (conts_lt e j hj) h
  simp [good, this]
theorem bad_lst {g : Nat → Int} {len i : Nat} (h : acc g i (wid (g i) - 1) < lst (g i)) : good g len i = false := by
  have : decide (lst (g i) ≤ acc g i (wid (g i) - 1)) = false := by simp; omega
  simp only [good, this, Bool.and_false, Bool.false_and]
theorem bad_alw {g : Nat → Int} {len i : Nat} (h : alw (acc g i (wid (g i) - 1)) = false) : good g len i = false := by
  simp only [good, h, Bool.and_false]
theorem good_of {g : Nat → Int} {len i : Nat} (h1 : wid (g i) ≠ 0) (h2 : i + wid (g i) ≤ len) (h3 : conts g i (wid (g i) - 1) = true) (h4 : lst (g i) ≤ acc g i (wid (g i) - 1)) (h5 : alw (acc g i (wid (g i) - 1)) = true) : good g len i = true := by
  simp [good, h1, h2, h3, h4, h5]
theorem good_inv {g : Nat → Int} {len i : Nat} (h : good g len i = true) : wid (g i) ≠ 0 ∧ i + wid (g i) ≤ len ∧ conts g i (wid (g i) - 1) = true ∧ lst (g i) ≤ acc g i (wid (g i) - 1) ∧ alw (acc g i (wid (g i) - 1)) = true := by
  simpa [good, and_assoc] using h

/-- How many bytes the rune at a place has (1 of a bad byte; 0 outside). -/
def stepN (g : Nat → Int) (len i : Nat) : Nat := if i < len then (if good g len i then wid (g i) else 1) else 0
theorem dSize_nat (g : Nat → Int) (len i : Nat) : dSize g len i = (stepN g len i : Int) := by
  unfold dSize stepN
  by_cases h : i < len
  · have : inside len (i : Int) = true := by simp [inside, h]
    cases hg : good g len i <;> simp [this, h, hg]
  · have : inside len (i : Int) = false := by simp [inside]; omega
    simp [this, h]
theorem step_pos {g : Nat → Int} {len i : Nat} (h : i < len) : 1 ≤ stepN g len i := by
  unfold stepN
  cases hg : good g len i with
  | false => simp [h]
  | true => have := (good_inv hg).1; simp [h]; omega
theorem step_le {g : Nat → Int} {len i : Nat} (h : i ≤ len) : i + stepN g len i ≤ len := by
  unfold stepN
  by_cases h' : i < len
  · cases hg : good g len i with
    | false => simp [h']; omega
    | true => have := (good_inv hg).2.1; simp [h']; omega
  · simp [h']; omega
theorem step_le4 (g : Nat → Int) (len i : Nat) : stepN g len i ≤ 4 := by
  unfold stepN
  have := wid_le (g i)
  (repeat' split) <;> omega
/-- The place of the k-th rune. -/
def posn (g : Nat → Int) (len : Nat) : Nat → Nat
  | 0 => 0
  | k + 1 => posn g len k + stepN g len (posn g len k)
theorem posn_le (g : Nat → Int) (len : Nat) : ∀ k, posn g len k ≤ len
  | 0 => Nat.zero_le _
  | k + 1 => step_le (posn_le g len k)
/-- As long as no place before is the end, the k-th place is at least k. -/
theorem posn_ge {g : Nat → Int} {len : Nat} : ∀ {k}, (∀ j, j < k → posn g len j < len) → k ≤ posn g len k
  | 0, _ => Nat.zero_le _
  | k + 1, h => by
    have h1 := posn_ge (k := k) fun j hj => h j (by omega)
    have h2 := step_pos (g := g) (h k (by omega))
    simp only [posn]; omega
theorem posn_lt_succ {g : Nat → Int} {len k : Nat} (h : posn g len k < len) : posn g len k < posn g len (k + 1) := by
  have := step_pos (g := g) h
  simp only [posn]; omega
/-- The k-th rune: the byte behind it, and the rune. -/
def endAt (g : Nat → Int) (len k : Nat) : Nat × Int := (posn g len (k + 1), dRune g len (posn g len k))
/-- What has come when k rounds are over. -/
def upto {α : Type} (f : Nat → α) (k : Nat) : List α := (List.range k).map f
theorem upto_succ {α : Type} (f : Nat → α) (k : Nat) : upto f (k + 1) = upto f k ++ [f k] := by simp [upto, List.range_succ]
theorem upto_length {α : Type} (f : Nat → α) (k : Nat) : (upto f k).length = k := by simp [upto]
/-- The runes of the text: k of them are before its end. -/
def Before (g : Nat → Int) (len k : Nat) : Prop := ∀ j, j < k → posn g len j < len
/-- The text has n runes. -/
def Runes (g : Nat → Int) (len n : Nat) : Prop := posn g len n = len ∧ Before g len n
theorem Before.succ {g : Nat → Int} {len k : Nat} (h : Before g len k) (hk : posn g len k < len) : Before g len (k + 1) := fun j hj => by
  by_cases e : j = k
  · subst e; exact hk
  · exact h j (by omega)
theorem Runes.unique {g : Nat → Int} {len n m : Nat} (h : Runes g len n) (h' : Runes g len m) : n = m := by
  rcases Nat.lt_trichotomy n m with c | c | c
  · have := h'.2 n c; have := h.1; omega
  · exact c
  · have := h.2 m c; have := h'.1; omega
theorem runes_exist (g : Nat → Int) (len : Nat) : ∃ n, Runes g len n ∧ n ≤ len := by
  have key : ∀ k, Before g len k ∨ ∃ n, n < k ∧ Runes g len n := by
    intro k
    induction k with
    | zero => exact .inl fun j hj => by omega
    | succ k ih =>
      rcases ih with h | ⟨n, h1, h2⟩
      · by_cases e : posn g len k < len
        · exact .inl (h.succ e)
        · exact .inr ⟨k, by omega, by have := posn_le g len k; omega, h⟩
      · exact .inr ⟨n, by omega, h2⟩
  rcases key (len + 1) with h | ⟨n, h1, h2⟩
  · have := posn_ge h; have := posn_le g len (len + 1); omega
  · exact ⟨n, h2, by omega⟩
theorem Runes.le {g : Nat → Int} {len n : Nat} (h : Runes g len n) : n ≤ len := by have := posn_ge h.2; have := posn_le g len n; omega

def gS (s : ByteArray) (j : Nat) : Int := ((s.data[j]?.getD 0).toNat : Int)
theorem small_good {g : Nat → Int} {len i : Nat} (h : i < len) (h0 : 0 ≤ g i) (h1 : g i < 128) : good g len i = true ∧ wid (g i) = 1 ∧ acc g i (wid (g i) - 1) = g i := by
  have hW : wid (g i) = 1 := by unfold wid; (repeat' split) <;> omega
  have hD : dig (g i) = g i := by unfold dig; (repeat' split) <;> omega
  have hL : lst (g i) = 0 := by unfold lst; (repeat' split) <;> omega
  have ha : acc g i (wid (g i) - 1) = g i := by rw [hW]; exact hD
  refine ⟨good_of (by omega) (by omega) (by rw [hW]; rfl) (by rw [ha, hL]; exact h0) (by rw [ha]; simp [alw]; omega), hW, ha⟩
theorem gS_get (s : ByteArray) (j : Nat) : gS s j = ((s.get! j).toNat : Int) := by
  unfold gS
  congr 2
  cases s with
  | mk d =>
    show (d[j]?.getD 0) = (ByteArray.get! ⟨d⟩ j)
    simp only [ByteArray.get!]
    rw [getElem!_def]
    cases h : d[j]? <;> simp <;> rfl
theorem get_lt (s : ByteArray) (j : Nat) : (s.get! j).toNat < 256 := (s.get! j).toNat_lt

theorem bad_is {g : Nat → Int} {len i : Nat} (hi : i < len) (h : good g len i = false) : (((65533, 1) : Nat × Nat).1 : Int) = dRune g len i ∧ ((65533, 1) : Nat × Nat).2 = stepN g len i := by
  obtain ⟨e1, _, _⟩ := dBad hi h
  exact ⟨by rw [e1]; rfl, by simp [stepN, hi, h]⟩
theorem good_is {g : Nat → Int} {len i c n : Nat} (hi : i < len) (h : good g len i = true) (hc : (c : Int) = acc g i (wid (g i) - 1)) (hn : n = wid (g i)) : (((c, n) : Nat × Nat).1 : Int) = dRune g len i ∧ ((c, n) : Nat × Nat).2 = stepN g len i := by
  obtain ⟨e1, _, _⟩ := dYes hi h
  exact ⟨hc.trans e1.symm, by simp [stepN, hi, h, hn]⟩

theorem dec_eq (s : ByteArray) (i : Nat) (hi : i < s.size) : ((Utf8.decode s i).1 : Int) = dRune (gS s) s.size i ∧ (Utf8.decode s i).2 = stepN (gS s) s.size i := by
  unfold Utf8.decode
  dsimp only
  have e0 := gS_get s i
  have e1 := gS_get s (i + 1)
  have e2 := gS_get s (i + 2)
  have e3 := gS_get s (i + 3)
  have l0 := get_lt s i
  have l1 := get_lt s (i + 1)
  have l2 := get_lt s (i + 2)
  have l3 := get_lt s (i + 3)
  obtain ⟨n0, q0⟩ : ∃ n, (s.get! i).toNat = n := ⟨_, rfl⟩
  obtain ⟨n1, q1⟩ : ∃ n, (s.get! (i + 1)).toNat = n := ⟨_, rfl⟩
  obtain ⟨n2, q2⟩ : ∃ n, (s.get! (i + 2)).toNat = n := ⟨_, rfl⟩
  obtain ⟨n3, q3⟩ : ∃ n, (s.get! (i + 3)).toNat = n := ⟨_, rfl⟩
  rw [q0] at e0 l0
  rw [q1] at e1 l1
  rw [q2] at e2 l2
  rw [q3] at e3 l3
  simp only [Nat.add_zero, q0, q1, q2, q3]
  clear q0 q1 q2 q3
  revert e0 e1 e2 e3 hi
  obtain ⟨g, hg⟩ : ∃ g, g = gS s := ⟨_, rfl⟩
  obtain ⟨len, hl⟩ : ∃ l, l = s.size := ⟨_, rfl⟩
  rw [← hg, ← hl]
  clear hg hl
  intro hi e0 e1 e2 e3
  by_cases h0 : n0 < 128
  · rw [if_pos h0]
    obtain ⟨hg, hw, ha⟩ := small_good (g := g) hi (by omega) (by omega)
    exact good_is hi hg (by rw [ha, e0]) hw.symm
  rw [if_neg h0]
  by_cases c2 : n0 / 32 = 6
  · have hW : wid (g i) = 2 := by unfold wid; (repeat' split) <;> omega
    have hD : dig (g i) = (n0 : Int) - 192 := by unfold dig; (repeat' split) <;> omega
    have hL : lst (g i) = 128 := by unfold lst; (repeat' split) <;> omega
    have n16 : ¬ n0 / 16 = 14 := by omega
    have n8 : ¬ n0 / 8 = 30 := by omega
    by_cases k1 : i + 1 < len ∧ n1 / 64 = 2
    · have hcn : conts (g) i 1 = true := conts_of_lt fun j hj => by
        obtain rfl : j = 0 := by omega
        rw [Nat.add_zero, e1]; omega
      have ha : acc (g) i 1 = ((n0 % 32 * 64 + n1 % 64 : Nat) : Int) := by simp only [acc, hD, Nat.add_zero, e1]; omega
      simp only [c2, k1, beq_self_eq_true, decide_true, Bool.and_self, if_true]
      split
      · rename_i hc
        refine good_is hi (good_of (by omega) (by omega) (by rw [hW]; exact hcn) (by rw [hW, hL, ha]; omega) (by rw [hW]; simp only [alw, ha]; simp; omega)) (by rw [hW, ha]) hW.symm
      · rename_i hc
        exact bad_is hi (bad_lst (by rw [hW, hL, ha]; omega))
    · have hf : (decide (i + 1 < len) && n1 / 64 == 2) = false := by simp; omega
      simp only [c2, hf, n16, n8, beq_self_eq_true, Bool.and_false, Bool.false_and, beq_eq_false_iff_ne.2 n16, beq_eq_false_iff_ne.2 n8, Bool.false_eq_true, if_false]
      by_cases kl : i + 1 < len
      · exact bad_is hi (bad_cont (j := 0) (by omega) (by rw [Nat.add_zero, e1]; omega))
      · exact bad_is hi (bad_len (by omega))
  have n32 := beq_eq_false_iff_ne.2 c2
  simp only [n32, Bool.false_and, Bool.false_eq_true, if_false]
  by_cases c3 : n0 / 16 = 14
  · have hW : wid (g i) = 3 := by unfold wid; (repeat' split) <;> omega
    have hD : dig (g i) = (n0 : Int) - 224 := by unfold dig; (repeat' split) <;> omega
    have hL : lst (g i) = 2048 := by unfold lst; (repeat' split) <;> omega
    have n8 : ¬ n0 / 8 = 30 := by omega
    by_cases k1 : (i + 1 < len ∧ n1 / 64 = 2) ∧ (i + 2 < len ∧ n2 / 64 = 2)
    · have hcn : conts (g) i 2 = true := conts_of_lt fun j hj => by
        rcases (show j = 0 ∨ j = 1 by omega) with rfl | rfl
        · rw [Nat.add_zero, e1]; omega
        · rw [show i + 1 + 1 = i + 2 from rfl, e2]; omega
      have ha : acc (g) i 2 = ((n0 % 16 * 4096 + n1 % 64 * 64 + n2 % 64 : Nat) : Int) := by simp only [acc, hD, Nat.add_zero, show i + 1 + 1 = i + 2 from rfl, e1, e2]; omega
      simp only [c3, k1, beq_self_eq_true, decide_true, Bool.and_self, if_true]
      split
      · rename_i hc
        simp [Utf8.valid] at hc
        refine good_is hi (good_of (by omega) (by omega) (by rw [hW]; exact hcn) (by rw [hW, hL, ha]; omega) (by rw [hW]; simp only [alw, ha]; simp; omega)) (by rw [hW, ha]) hW.symm
      · rename_i hc
        simp [Utf8.valid] at hc
        by_cases hlow : acc (g) i 2 < 2048
        · exact bad_is hi (bad_lst (by rw [hW, hL]; exact hlow))
        · exact bad_is hi (bad_alw (by rw [hW]; simp only [alw]; rw [ha] at hlow ⊢; simp; omega))
    · have hf : (n0 / 16 == 14 && (decide (i + 1 < len) && n1 / 64 == 2) && (decide (i + 2 < len) && n2 / 64 == 2)) = false := by simp; omega
      simp only [hf, beq_eq_false_iff_ne.2 n8, Bool.false_and, Bool.false_eq_true, if_false]
      by_cases kl : i + 2 < len
      · by_cases k1' : n1 / 64 = 2
        · exact bad_is hi (bad_cont (j := 1) (by omega) (by rw [show i + 1 + 1 = i + 2 from rfl, e2]; omega))
        · exact bad_is hi (bad_cont (j := 0) (by omega) (by rw [Nat.add_zero, e1]; omega))
      · exact bad_is hi (bad_len (by omega))
  have n16 := beq_eq_false_iff_ne.2 c3
  simp only [n16, Bool.false_and, Bool.false_eq_true, if_false]
  by_cases c4 : n0 / 8 = 30
  · have hW : wid (g i) = 4 := by unfold wid; (repeat' split) <;> omega
    have hD : dig (g i) = (n0 : Int) - 240 := by unfold dig; (repeat' split) <;> omega
    have hL : lst (g i) = 65536 := by unfold lst; (repeat' split) <;> omega
    by_cases k1 : (i + 1 < len ∧ n1 / 64 = 2) ∧ (i + 2 < len ∧ n2 / 64 = 2) ∧ (i + 3 < len ∧ n3 / 64 = 2)
    · have hcn : conts (g) i 3 = true := conts_of_lt fun j hj => by
        rcases (show j = 0 ∨ j = 1 ∨ j = 2 by omega) with rfl | rfl | rfl
        · rw [Nat.add_zero, e1]; omega
        · rw [show i + 1 + 1 = i + 2 from rfl, e2]; omega
        · rw [show i + 1 + 2 = i + 3 from rfl, e3]; omega
      have ha : acc (g) i 3 = ((n0 % 8 * 262144 + n1 % 64 * 4096 + n2 % 64 * 64 + n3 % 64 : Nat) : Int) := by simp only [acc, hD, Nat.add_zero, show i + 1 + 1 = i + 2 from rfl, show i + 1 + 2 = i + 3 from rfl, e1, e2, e3]; omega
      simp only [c4, k1, beq_self_eq_true, decide_true, Bool.and_self, if_true]
      split
      · rename_i hc
        simp [Utf8.valid] at hc
        refine good_is hi (good_of (by omega) (by omega) (by rw [hW]; exact hcn) (by rw [hW, hL, ha]; omega) (by rw [hW]; simp only [alw, ha]; simp; omega)) (by rw [hW, ha]) hW.symm
      · rename_i hc
        simp [Utf8.valid] at hc
        by_cases hlow : acc (g) i 3 < 65536
        · exact bad_is hi (bad_lst (by rw [hW, hL]; exact hlow))
        · exact bad_is hi (bad_alw (by rw [hW]; simp only [alw]; rw [ha] at hlow ⊢; simp; omega))
    · have hf : (n0 / 8 == 30 && (decide (i + 1 < len) && n1 / 64 == 2) && (decide (i + 2 < len) && n2 / 64 == 2) && (decide (i + 3 < len) && n3 / 64 == 2)) = false := by simp; omega
      simp only [hf, Bool.false_eq_true, if_false]
      by_cases kl : i + 3 < len
      · by_cases k1' : n1 / 64 = 2
        · by_cases k2' : n2 / 64 = 2
          · exact bad_is hi (bad_cont (j := 2) (by omega) (by rw [show i + 1 + 2 = i + 3 from rfl, e3]; omega))
          · exact bad_is hi (bad_cont (j := 1) (by omega) (by rw [show i + 1 + 1 = i + 2 from rfl, e2]; omega))
        · exact bad_is hi (bad_cont (j := 0) (by omega) (by rw [Nat.add_zero, e1]; omega))
      · exact bad_is hi (bad_len (by omega))
  have n8 := beq_eq_false_iff_ne.2 c4
  simp only [n8, Bool.false_and, Bool.false_eq_true, if_false]
  exact bad_is hi (bad_wid0 (by unfold wid; (repeat' split) <;> omega))
end Go.Proofs.YtdgocaokmmhenaaGreatDoor

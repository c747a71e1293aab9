/- Tokens as plain data: what stands at a place of a row of bytes. -/
import Derived.Test.YtpdkeggiokebmaaDoorB0
namespace Go.Proofs.YtpdkeggiokebmaaDoor
set_option linter.unusedSimpArgs false
set_option linter.unusedVariables false

/-- How far bytes of a kind stand from a place on. -/
def stopF (p : Int → Bool) (g : Nat → Int) (len : Nat) : Nat → Nat → Nat
  | 0, i => i
  | f + 1, i => if i < len ∧ p (g i) = true then stopF p g len f (i + 1) else i
def stopI (p : Int → Bool) (g : Nat → Int) (len i : Nat) : Nat := stopF p g len (len - i) i
theorem stopF_spec {p : Int → Bool} {g : Nat → Int} {len : Nat} : ∀ (f i : Nat), len - i ≤ f → i ≤ len → i ≤ stopF p g len f i ∧ stopF p g len f i ≤ len ∧ (∀ j, i ≤ j → j < stopF p g len f i → p (g j) = true) ∧ (stopF p g len f i = len ∨ p (g (stopF p g len f i)) = false)
  | 0, i, hf, hi => ⟨Nat.le_refl _, hi, fun j h1 h2 => by simp only [stopF] at h2; omega, .inl (by simp only [stopF]; omega)⟩
  | f + 1, i, hf, hi => by
    by_cases h : i < len ∧ p (g i) = true
    · obtain ⟨a, b, c, d⟩ := stopF_spec (p := p) (g := g) (len := len) f (i + 1) (by omega) (by omega)
      simp only [stopF, if_pos h]
      refine ⟨by omega, b, fun j h1 h2 => ?_, d⟩
      by_cases e : j = i
      · rw [e]; exact h.2
      · exact c j (by omega) h2
    · simp only [stopF, if_neg h]
      refine ⟨Nat.le_refl _, hi, fun j h1 h2 => by omega, ?_⟩
      by_cases hl : i < len
      · right
        cases hp : p (g i) with
        | false => rfl
        | true => exact absurd ⟨hl, hp⟩ h
      · left; omega
theorem stopI_spec {p : Int → Bool} {g : Nat → Int} {len i : Nat} (hi : i ≤ len) : i ≤ stopI p g len i ∧ stopI p g len i ≤ len ∧ (∀ j, i ≤ j → j < stopI p g len i → p (g j) = true) ∧ (stopI p g len i = len ∨ p (g (stopI p g len i)) = false) := stopF_spec _ _ (Nat.le_refl _) hi
theorem stopI_step {p : Int → Bool} {g : Nat → Int} {len i : Nat} (hi : i < len) (hp : p (g i) = true) : stopI p g len i = stopI p g len (i + 1) := by
  unfold stopI
  rw [show len - i = (len - (i + 1)) + 1 from by omega, stopF, if_pos ⟨hi, hp⟩]
theorem stopI_stop {p : Int → Bool} {g : Nat → Int} {len i : Nat} (h : ¬ (i < len ∧ p (g i) = true)) : stopI p g len i = i := by
  unfold stopI
  cases e : len - i with
  | zero => rfl
  | succ f => rw [stopF, if_neg h]

/-- Blanks. -/
def blk (c : Int) : Bool := c == 9 || c == 10 || c == 13 || c == 32
/-- Where a remark's end stands: the place of the star; the text's end less one or more: nowhere. -/
def remF (g : Nat → Int) (len : Nat) : Nat → Nat → Nat
  | 0, i => i
  | f + 1, i => if i + 1 < len ∧ ¬ (g i = 42 ∧ g (i + 1) = 47) then remF g len f (i + 1) else i
def remI (g : Nat → Int) (len i : Nat) : Nat := remF g len (len - i) i
theorem remI_step {g : Nat → Int} {len i : Nat} (hi : i + 1 < len) (h : ¬ (g i = 42 ∧ g (i + 1) = 47)) : remI g len i = remI g len (i + 1) := by
  unfold remI
  rw [show len - i = (len - (i + 1)) + 1 from by omega, remF, if_pos ⟨hi, h⟩]
theorem remI_stop {g : Nat → Int} {len i : Nat} (h : ¬ (i + 1 < len ∧ ¬ (g i = 42 ∧ g (i + 1) = 47))) : remI g len i = i := by
  unfold remI
  cases e : len - i with
  | zero => rfl
  | succ f => rw [remF, if_neg h]
theorem remF_ge {g : Nat → Int} {len : Nat} : ∀ (f i : Nat), i ≤ remF g len f i
  | 0, i => Nat.le_refl _
  | f + 1, i => by
    simp only [remF]
    split
    · have := remF_ge (g := g) (len := len) f (i + 1); omega
    · exact Nat.le_refl _
/-- Behind blanks and remarks; false: a remark that does not end. -/
def ahdF (g : Nat → Int) (len : Nat) : Nat → Nat → Nat × Bool
  | 0, i => (i, true)
  | f + 1, i =>
    if ¬ i < len then (i, true)
    else if blk (g i) = true then ahdF g len f (i + 1)
    else if g i = 47 ∧ i + 1 < len ∧ g (i + 1) = 47 then ahdF g len f (stopI (fun c => c != 10) g len i)
    else if g i = 47 ∧ i + 1 < len ∧ g (i + 1) = 42 then (if remI g len (i + 2) + 1 < len then ahdF g len f (remI g len (i + 2) + 2) else (i, false))
    else (i, true)
def ahd (g : Nat → Int) (len i : Nat) : Nat × Bool := ahdF g len (len - i + 1) i
theorem ahdF_fuel {g : Nat → Int} {len : Nat} : ∀ (f f' i : Nat), len - i < f → len - i < f' → ahdF g len f i = ahdF g len f' i
  | 0, f', i, h, _ => by omega
  | f + 1, 0, i, _, h => by omega
  | f + 1, f' + 1, i, h, h' => by
    simp only [ahdF]
    by_cases hl : i < len
    · have hl' : ¬ ¬ i < len := fun h => h hl
      rw [if_neg hl', if_neg hl']
      by_cases hb : blk (g i) = true
      · rw [if_pos hb, if_pos hb]
        exact ahdF_fuel f f' (i + 1) (by omega) (by omega)
      · rw [if_neg hb, if_neg hb]
        by_cases h1 : g i = 47 ∧ i + 1 < len ∧ g (i + 1) = 47
        · rw [if_pos h1, if_pos h1]
          have hp : (g i != 10) = true := by rw [h1.1]; decide
          have h2 := stopI_step (p := fun c => c != 10) (g := g) hl hp
          have h3 := (stopI_spec (p := fun c => c != 10) (g := g) (len := len) (i := i + 1) (by omega)).1
          exact ahdF_fuel f f' _ (by omega) (by omega)
        · rw [if_neg h1, if_neg h1]
          by_cases h2 : g i = 47 ∧ i + 1 < len ∧ g (i + 1) = 42
          · rw [if_pos h2, if_pos h2]
            split
            · have := remF_ge (g := g) (len := len) (len - (i + 2)) (i + 2)
              have h3 : i + 2 ≤ remI g len (i + 2) := this
              exact ahdF_fuel f f' _ (by omega) (by omega)
            · rfl
          · rw [if_neg h2, if_neg h2]
    · rw [if_pos hl, if_pos hl]
theorem ahd_end {g : Nat → Int} {len i : Nat} (h : ¬ i < len) : ahd g len i = (i, true) := by
  unfold ahd
  rw [ahdF, if_pos h]
theorem ahd_blk {g : Nat → Int} {len i : Nat} (h : i < len) (hb : blk (g i) = true) : ahd g len i = ahd g len (i + 1) := by
  unfold ahd
  rw [ahdF, if_neg (by omega), if_pos hb]
  exact ahdF_fuel _ _ _ (by omega) (by omega)
theorem ahd_line {g : Nat → Int} {len i : Nat} (h : i + 1 < len) (h0 : g i = 47) (h1 : g (i + 1) = 47) : ahd g len i = ahd g len (stopI (fun c => c != 10) g len i) := by
  have hp : (g i != 10) = true := by rw [h0]; decide
  have h2 := stopI_step (p := fun c => c != 10) (g := g) (len := len) (i := i) (by omega) hp
  have h3 := (stopI_spec (p := fun c => c != 10) (g := g) (len := len) (i := i + 1) (by omega)).1
  unfold ahd
  rw [ahdF, if_neg (by omega), if_neg (by rw [h0]; decide), if_pos ⟨h0, h, h1⟩]
  exact ahdF_fuel _ _ _ (by omega) (by omega)
theorem ahd_rem {g : Nat → Int} {len i : Nat} (h : i + 1 < len) (h0 : g i = 47) (h1 : g (i + 1) = 42) : ahd g len i = if remI g len (i + 2) + 1 < len then ahd g len (remI g len (i + 2) + 2) else (i, false) := by
  have h3 : i + 2 ≤ remI g len (i + 2) := remF_ge (g := g) (len := len) (len - (i + 2)) (i + 2)
  unfold ahd
  rw [ahdF, if_neg (by omega), if_neg (by rw [h0]; decide), if_neg (by rw [h1]; omega), if_pos ⟨h0, h, h1⟩]
  split
  · exact ahdF_fuel _ _ _ (by omega) (by omega)
  · rfl
theorem ahd_tok {g : Nat → Int} {len i : Nat} (h : i < len) (hb : blk (g i) = false) (h1 : ¬ (g i = 47 ∧ i + 1 < len ∧ g (i + 1) = 47)) (h2 : ¬ (g i = 47 ∧ i + 1 < len ∧ g (i + 1) = 42)) : ahd g len i = (i, true) := by
  unfold ahd
  rw [ahdF, if_neg (by omega), if_neg (by simp [hb]), if_neg h1, if_neg h2]

/-- A hexadecimal digit; -1: none. -/
def hexD (c : Int) : Int := if 48 ≤ c ∧ c ≤ 57 then c - 48 else if 97 ≤ c ∧ c ≤ 102 then c - 87 else if 65 ≤ c ∧ c ≤ 70 then c - 55 else -1
def hexB (c : Int) : Bool := decide (0 ≤ hexD c)
theorem hexD_bd {c : Int} (h : hexB c = true) : 0 ≤ hexD c ∧ hexD c ≤ 15 := by
  simp only [hexB, decide_eq_true_eq] at h
  refine ⟨h, ?_⟩
  unfold hexD
  (repeat' split) <;> omega
/-- What so many digits say. -/
def hexV (g : Nat → Int) (i : Nat) : Nat → Int
  | 0 => 0
  | n + 1 => hexV g i n * 16 + hexD (g (i + n))
theorem hexV_bd {g : Nat → Int} {i : Nat} : ∀ {n : Nat}, (∀ j, j < n → hexB (g (i + j)) = true) → 0 ≤ hexV g i n ∧ hexV g i n < 16 ^ n
  | 0, _ => by simp [hexV]
  | n + 1, h => by
    have h1 := hexV_bd (g := g) (i := i) (n := n) fun j hj => h j (by omega)
    have h2 := hexD_bd (h n (by omega))
    simp only [hexV]
    have e : (16 : Int) ^ (n + 1) = 16 ^ n * 16 := Int.pow_succ _ _
    rw [e]
    omega
/-- A rune by its number: from a backslash on; the rune and how many bytes. -/
def numE (g : Nat → Int) (len at' : Nat) : Option (Int × Nat) :=
  if at' + 2 < len ∧ g (at' + 1) = 117 ∧ g (at' + 2) = 123 ∧ stopI hexB g len (at' + 3) < len ∧ g (stopI hexB g len (at' + 3)) = 125 ∧ at' + 3 < stopI hexB g len (at' + 3) ∧ stopI hexB g len (at' + 3) ≤ at' + 9 ∧ alw (hexV g (at' + 3) (stopI hexB g len (at' + 3) - (at' + 3))) = true
  then some (hexV g (at' + 3) (stopI hexB g len (at' + 3) - (at' + 3)), stopI hexB g len (at' + 3) + 1 - at') else none
/-- What an escape says, and how many bytes it has. -/
def escE (g : Nat → Int) (len at' : Nat) : Option (Int × Nat) :=
  if ¬ at' + 1 < len then none
  else if g (at' + 1) = 110 then some (10, 2) else if g (at' + 1) = 114 then some (13, 2) else if g (at' + 1) = 116 then some (9, 2) else if g (at' + 1) = 48 then some (0, 2)
  else if g (at' + 1) = 92 ∨ g (at' + 1) = 34 ∨ g (at' + 1) = 39 ∨ g (at' + 1) = 36 ∨ g (at' + 1) = 96 then some (g (at' + 1), 2) else numE g len at'
theorem escE_w {g : Nat → Int} {len at' : Nat} {r : Int} {w : Nat} (h : escE g len at' = some (r, w)) : 2 ≤ w ∧ at' + w ≤ len := by
  unfold escE at h
  by_cases h0 : ¬ at' + 1 < len
  · rw [if_pos h0] at h; cases h
  rw [if_neg h0] at h
  have key : ∀ {x : Int}, (some (x, 2) : Option (Int × Nat)) = some (r, w) → 2 ≤ w ∧ at' + w ≤ len := fun e => by
    injection e with e
    injection e with _ e
    omega
  (repeat' split at h) <;> first | exact key h | skip
  unfold numE at h
  split at h
  · rename_i hc
    injection h with h
    injection h with _ h
    omega
  · cases h
end Go.Proofs.YtpdkeggiokebmaaDoor

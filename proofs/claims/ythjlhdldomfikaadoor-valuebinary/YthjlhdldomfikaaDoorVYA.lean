/- Of less, the same, more just one holds, purely; more fuel tells the same order. -/
import Derived.Test.YthjlhdldomfikaaDoorVY3
import Derived.Test.YthjlhdldomfikaaDoorVG
namespace Go.Proofs.YthjlhdldomfikaaDoor
set_option linter.unusedSimpArgs false
set_option linter.unusedVariables false
set_option maxRecDepth 100000

theorem cmpP_swap (x y : Int) : cmpP y x = -cmpP x y := by unfold cmpP; (repeat' split) <;> omega
theorem cmpP_zero (x y : Int) : cmpP x y = 0 ↔ x = y := by unfold cmpP; (repeat' split) <;> omega
theorem one_of (o : Int) (s : Bool) (h : s = true ↔ o = 0) : (decide (o < 0) = true ∧ s = false ∧ decide (-o < 0) = false) ∨ (decide (o < 0) = false ∧ s = true ∧ decide (-o < 0) = false) ∨ (decide (o < 0) = false ∧ s = false ∧ decide (-o < 0) = true) := by
  cases s
  · have h' : o ≠ 0 := fun e => by have := h.2 e; cases this
    by_cases h1 : o < 0
    · exact .inl ⟨by simp [h1], rfl, by simp; omega⟩
    · exact .inr (.inr ⟨by simp; omega, rfl, by simp; omega⟩)
  · have := h.1 rfl
    subst this
    exact .inr (.inl ⟨by decide, rfl, by decide⟩)
theorem cmpF_succ (a b : ByteArray) (f i j : Nat) : cmpF a b (f + 1) i j = if i < a.size then (if j < b.size then (if (Utf8.decode a i).1 = (Utf8.decode b j).1 then cmpF a b f (i + (Utf8.decode a i).2) (j + (Utf8.decode b j).2) else if (Utf8.decode a i).1 < (Utf8.decode b j).1 then -1 else 1) else 1) else if j < b.size then -1 else 0 := rfl
theorem cmpF_more (a b : ByteArray) : ∀ f i j, i ≤ a.size → a.size < i + f → cmpF a b (f + 1) i j = cmpF a b f i j := by
  intro f
  induction f with
  | zero => intro i j h0 h; omega
  | succ f ih =>
    intro i j h0 h
    rw [cmpF_succ a b (f + 1) i j, cmpF_succ a b f i j]
    by_cases h1 : i < a.size
    · by_cases h2 : j < b.size
      · have hp := dec_pos a i h1
        rw [ih _ _ hp.2 (by omega)]
      · simp [h1, h2]
    · simp [h1]
theorem cmpF_add (a b : ByteArray) (d : Nat) : cmpF a b (a.size + 1 + d) 0 0 = cmpF a b (a.size + 1) 0 0 := by
  induction d with
  | zero => rfl
  | succ d ih => rw [← ih]; exact cmpF_more a b (a.size + 1 + d) 0 0 (Nat.zero_le _) (by omega)
theorem cmpF_turn (a b : ByteArray) : cmpF b a (b.size + 1) 0 0 = -cmpF a b (a.size + 1) 0 0 := by
  rw [← cmpF_add b a a.size, ← cmpF_add a b b.size, show b.size + 1 + a.size = a.size + 1 + b.size by omega]
  exact cmpF_swap a b _ 0 0
end Go.Proofs.YthjlhdldomfikaaDoor

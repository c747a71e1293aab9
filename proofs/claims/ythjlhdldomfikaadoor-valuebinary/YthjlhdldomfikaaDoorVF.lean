/- A product of numbers, exact or not; what is reckoned of two numbers, as data. -/
import Derived.Test.YthjlhdldomfikaaDoorVC
import Derived.Test.YthjlhdldomfikaaDoorVA
namespace Go.Proofs.YthjlhdldomfikaaDoor
set_option linter.unusedSimpArgs false
set_option linter.unusedVariables false
set_option maxRecDepth 100000
open Go.RowKit Go.Shelf

theorem product_raw (a c : Int) (ha : -9007199254740991 ≤ a ∧ a ≤ 9007199254740991) (hc : -9007199254740991 ≤ c ∧ c ≤ 9007199254740991) (x y : Nat) (hx : absN a = (x : Int)) (hy : absN c = (y : Int)) (h l : Int) (hh : ((x * y / 18446744073709551616 : Nat) : Int) = h) (hl : ((x * y % 18446744073709551616 : Nat) : Int) = l) (b : Bool) (hb : (h == 0 && decide (l ≤ 9007199254740991)) = b) : Ret 35 #[.int .i64 a, .int .i64 c] (.tuple #[.int .i64 (wrap64 (a * c)), .bool b]) := by
  intro W
  have hx1 : x < 18446744073709551616 := by have := hx; unfold absN at this; omega
  have hy1 : y < 18446744073709551616 := by have := hy; unfold absN at this; omega
  have H1 := hide (size_any a (by omega) _ hx)
  have H2 := hide (size_any c (by omega) _ hy)
  have H3 : Hid (∀ w, Calls Tryd.prog 64 #[.int .u64 (x : Int), .int .u64 (y : Int)] w fun e w' => e = .returned (.tuple #[.int .u64 h, .int .u64 l]) ∧ w' = w) := by
    intro w
    have := Tryd.bits_Mul64 x y hx1 hy1 w
    rw [hh, hl] at this
    exact this
  obtain ⟨X, hX⟩ : ∃ X : Int, (x : Int) = X := ⟨_, rfl⟩
  obtain ⟨Y, hY⟩ : ∃ Y : Int, (y : Int) = Y := ⟨_, rfl⟩
  rw [hX] at H1 H3
  rw [hY] at H2 H3
  clear hx hy hh hl hx1 hy1 hX hY ha hc
  by_cases e1 : (h == 0) = true
  · have e2 : decide (l ≤ 9007199254740991) = b := by rw [e1] at hb; simpa using hb
    clear hb
    go_enter Tryd.func35, Tryd.ntmps35
    go_wp2_with (first | (go_at_call_of 65 a; refine (unhide H1 _).mono ?_; rintro e w1 ⟨rfl, hb1⟩) | (go_at_call_of 65 c; refine (unhide H2 _).mono ?_; rintro e w2 ⟨rfl, hb2⟩) | (go_at_call 64; refine (unhide H3 _).mono ?_; rintro e w3 ⟨rfl, rfl⟩))
    refine bodyPost_ret (by first | (simp [results, Tryd.results35, go_sem]; done) | (simp [results, Tryd.results35, go_sem]; rfl)) rfl ⟨rfl, (hb1.trans (hb2.mono hb1.size))⟩
  · have e1' : (h == 0) = false := by simpa using e1
    have e2 : b = false := by rw [e1'] at hb; simpa using hb.symm
    subst e2
    clear hb e1
    go_enter Tryd.func35, Tryd.ntmps35
    go_wp2_with (first | (go_at_call_of 65 a; refine (unhide H1 _).mono ?_; rintro e w1 ⟨rfl, hb1⟩) | (go_at_call_of 65 c; refine (unhide H2 _).mono ?_; rintro e w2 ⟨rfl, hb2⟩) | (go_at_call 64; refine (unhide H3 _).mono ?_; rintro e w3 ⟨rfl, rfl⟩))
    refine bodyPost_ret (by first | (simp [results, Tryd.results35, go_sem]; done) | (simp [results, Tryd.results35, go_sem]; rfl)) rfl ⟨rfl, (hb1.trans (hb2.mono hb1.size))⟩
theorem abs_nat (a : Int) : absN a = ((Int.natAbs a : Nat) : Int) := by unfold absN; omega
/-- Is the product exact? -/
def prodB (a c : Int) : Bool := decide (Int.natAbs (a * c) ≤ 9007199254740991)
theorem product_any (a c : Int) (ha : -9007199254740991 ≤ a ∧ a ≤ 9007199254740991) (hc : -9007199254740991 ≤ c ∧ c ≤ 9007199254740991) : Ret 35 #[.int .i64 a, .int .i64 c] (.tuple #[.int .i64 (wrap64 (a * c)), .bool (prodB a c)]) := by
  refine product_raw a c ha hc _ _ (abs_nat a) (abs_nat c) _ _ rfl rfl _ ?_
  unfold prodB
  rw [Int.natAbs_mul]
  generalize a.natAbs * c.natAbs = m
  by_cases h : m ≤ 9007199254740991
  · have h1 : m / 18446744073709551616 = 0 := by omega
    have h2 : m % 18446744073709551616 = m := by omega
    simp [h1, h2, h]
    omega
  · by_cases h1 : m / 18446744073709551616 = 0
    · have h2 : m % 18446744073709551616 = m := by omega
      simp [h1, h2, h]
      omega
    · have h3 : ¬ ((m : Int) / 18446744073709551616 = 0) := by omega
      simp [h]
      intro h4
      exact absurd h4 h3
end Go.Proofs.YthjlhdldomfikaaDoor

/- Towards the law: A0 A1. -/
import Derived.WalkKit
import Derived.WalkLawsBesides
import Derived.WalkSpells
import Derived.Test.YtofgphapjjofnaaGreatDoorRows
set_option linter.unusedSimpArgs false
set_option linter.unusedVariables false
set_option maxRecDepth 100000
set_option maxHeartbeats 8000000
namespace Go.Proofs.YtofgphapjjofnaaGreatDoor
section
def wid (x : Int) : Nat := if x < 128 then 1 else if x < 192 then 0 else if x < 224 then 2 else if x < 240 then 3 else if x < 248 then 4 else 0
def dig (x : Int) : Int := if x < 128 then x else if x < 192 then 0 else if x < 224 then x - 192 else if x < 240 then x - 224 else if x < 248 then x - 240 else 0
def lst (x : Int) : Int := if x < 128 then 0 else if x < 192 then 0 else if x < 224 then 128 else if x < 240 then 2048 else if x < 248 then 65536 else 0
def acc (g : Nat → Int) (i : Nat) : Nat → Int
 | 0 => dig (g i)
 | k + 1 => acc g i k * 64 + (g (i + 1 + k) - 128)
def conts (g : Nat → Int) (i : Nat) : Nat → Bool
 | 0 => true
 | k + 1 => conts g i k && decide (128 ≤ g (i + 1 + k) ∧ g (i + 1 + k) ≤ 191)
def alw (r : Int) : Bool := decide (r < 55296 ∨ (57343 < r ∧ r ≤ 1114111))
def good (g : Nat → Int) (len i : Nat) : Bool :=
 decide (wid (g i) ≠ 0) && decide (i + wid (g i) ≤ len) && conts g i (wid (g i) - 1) && decide (lst (g i) ≤ acc g i (wid (g i) - 1)) && alw (acc g i (wid (g i) - 1))
def inside (len : Nat) (at' : Int) : Bool := decide (0 ≤ at' ∧ at' < len)
def dRune (g : Nat → Int) (len : Nat) (at' : Int) : Int := if inside len at' then (if good g len at'.toNat then acc g at'.toNat (wid (g at'.toNat) - 1) else 65533) else 0
def dSize (g : Nat → Int) (len : Nat) (at' : Int) : Int := if inside len at' then (if good g len at'.toNat then (wid (g at'.toNat) : Int) else 1) else 0
def dGood (g : Nat → Int) (len : Nat) (at' : Int) : Bool := inside len at' && good g len at'.toNat
theorem wid_le (x : Int) : wid x ≤ 4 := by unfold wid; repeat' split
                                           all_goals omega
theorem dig_bd (x : Int) (h0 : 0 ≤ x) : 0 ≤ dig x ∧ dig x < 128 := by unfold dig; repeat' split
                                                                      all_goals omega
theorem conts_lt {g : Nat → Int} {i k : Nat} (h : conts g i k = true) : ∀ j, j < k → 128 ≤ g (i + 1 + j) ∧ g (i + 1 + j) ≤ 191 := by
 induction k with
 | zero => intro j hj; omega
 | succ k ih =>
   intro j hj;simp only [conts, Bool.and_eq_true, decide_eq_true_eq] at h;by_cases e : j = k
   · subst e; exact h.2
   · exact ih h.1 j (by omega)
theorem acc_bd {g : Nat → Int} {i : Nat} (h0 : 0 ≤ g i) : ∀ {k : Nat}, conts g i k = true → 0 ≤ acc g i k ∧ acc g i k < 128 * 64 ^ k
 | 0, _ => by simpa [acc] using dig_bd _ h0
 | k + 1, h => by
   simp only [conts, Bool.and_eq_true, decide_eq_true_eq] at h;have := acc_bd h0 h.1;simp only [acc];have e : (128 : Int) * 64 ^ (k + 1) = 128 * 64 ^ k * 64 := by rw [Int.pow_succ, Int.mul_assoc]
   rw [e];omega
theorem acc_lt2 {g : Nat → Int} {i : Nat} (h0 : 0 ≤ g i) {k : Nat} (hk : k ≤ 2) (h : conts g i k = true) : 0 ≤ acc g i k ∧ acc g i k < 524288 := by
 have := acc_bd h0 h;match k, hk with
 | 0, _ => simp at this; omega
 | 1, _ => simp at this; omega
 | 2, _ => simp at this; omega
theorem dOut {len : Nat} {at' : Int} (h : inside len at' = false) (g : Nat → Int) : dRune g len at' = 0 ∧ dSize g len at' = 0 ∧ dGood g len at' = false := by
 simp [dRune, dSize, dGood, h]
theorem dBad {g : Nat → Int} {len i : Nat} (hi : i < len) (h : good g len i = false) : dRune g len i = 65533 ∧ dSize g len i = 1 ∧ dGood g len i = false := by
 have : inside len (i : Int) = true := by simp [inside, hi]
 simp [dRune, dSize, dGood, this, h]
theorem dYes {g : Nat → Int} {len i : Nat} (hi : i < len) (h : good g len i = true) : dRune g len i = acc g i (wid (g i) - 1) ∧ dSize g len i = wid (g i) ∧ dGood g len i = true := by
 have : inside len (i : Int) = true := by simp [inside, hi]
 simp [dRune, dSize, dGood, this, h]
theorem bad_wid0 {g : Nat → Int} {len i : Nat} (h : wid (g i) = 0) : good g len i = false := by simp [good, h]
theorem bad_len {g : Nat → Int} {len i : Nat} (h : len < i + wid (g i)) : good g len i = false := by simp [good]; omega
theorem bad_cont {g : Nat → Int} {len i j : Nat} (hj : j < wid (g i) - 1) (h : ¬ (128 ≤ g (i + 1 + j) ∧ g (i + 1 + j) ≤ 191)) : good g len i = false := by
 have : conts g i (wid (g i) - 1) = false := by
  cases e : conts g i (wid (g i) - 1) with
  | false => rfl
  | true => exact absurd (conts_lt e j hj) h
 simp [good, this]
theorem bad_lst {g : Nat → Int} {len i : Nat} (h : acc g i (wid (g i) - 1) < lst (g i)) : good g len i = false := by
 have : decide (lst (g i) ≤ acc g i (wid (g i) - 1)) = false := by simp; omega
 simp only [good, this, Bool.and_false, Bool.false_and]
theorem bad_alw {g : Nat → Int} {len i : Nat} (h : alw (acc g i (wid (g i) - 1)) = false) : good g len i = false := by
 simp only [good, h, Bool.and_false]
theorem good_of {g : Nat → Int} {len i : Nat} (h1 : wid (g i) ≠ 0) (h2 : i + wid (g i) ≤ len) (h3 : conts g i (wid (g i) - 1) = true) (h4 : lst (g i) ≤ acc g i (wid (g i) - 1)) (h5 : alw (acc g i (wid (g i) - 1)) = true) : good g len i = true := by
 simp [good, h1, h2, h3, h4, h5]
theorem good_inv {g : Nat → Int} {len i : Nat} (h : good g len i = true) : wid (g i) ≠ 0 ∧ i + wid (g i) ≤ len ∧ conts g i (wid (g i) - 1) = true ∧ lst (g i) ≤ acc g i (wid (g i) - 1) ∧ alw (acc g i (wid (g i) - 1)) = true := by
 simpa [good, and_assoc] using h
end
section
open Go.RowKit
theorem Hi {p : Prop} (h : p) : Hid p := h
theorem U {p : Prop} (h : Hid p) : p := h
theorem NL {n : Nat} : n ≤ n := Nat.le.refl
theorem ret3_of {a a' b b' c c' : Int} (h1 : a = a') (h2 : b = b') (h3 : c = c') : Ending.returned (.tuple #[.int .i64 a, .int .i32 b, .int .i32 c]) = .returned (.tuple #[.int .i64 a', .int .i32 b', .int .i32 c']) := by rw [h1, h2, h3]
theorem asked_any (x : Int) (h0 : 0 ≤ x) (h1 : x ≤ 255) (w : World) :
 Calls Tryz.prog 168 #[.int .u8 x] w fun e w' => e = .returned (.tuple #[.int .i64 (wid x), .int .i32 (dig x), .int .i32 (lst x)]) ∧ w' = w := by
 go_enter Tryz.func168, Tryz.ntmps168;go_wp2
 · go_ret3
   have h : x < 128 := by assumption
   exact ⟨ret3_of (by simp [wid, h]) (by simp [dig, h]) (by simp [lst, h]), rfl⟩
 · go_ret3
   have h : (x / 32 == 6) = true := by assumption
   have h' := beq_iff_eq.1 h
   exact ⟨ret3_of (by unfold wid; repeat' split
                      all_goals omega) (by unfold dig; repeat' split
                                           all_goals omega) (by unfold lst; repeat' split
                                                                all_goals omega), rfl⟩
 · go_ret3
   have h : (x / 16 == 14) = true := by assumption
   have h' := beq_iff_eq.1 h
   exact ⟨ret3_of (by unfold wid; repeat' split
                      all_goals omega) (by unfold dig; repeat' split
                                           all_goals omega) (by unfold lst; repeat' split
                                                                all_goals omega), rfl⟩
 · go_ret3
   have h : (x / 8 == 30) = true := by assumption
   have h' := beq_iff_eq.1 h
   exact ⟨ret3_of (by unfold wid; repeat' split
                      all_goals omega) (by unfold dig; repeat' split
                                           all_goals omega) (by unfold lst; repeat' split
                                                                all_goals omega), rfl⟩
 · go_ret3
   have h : (x / 8 == 30) = false := by assumption
   have h' := beq_eq_false_iff_ne.1 h;have g : (x / 16 == 14) = false := by assumption
   have g' := beq_eq_false_iff_ne.1 g;have f : (x / 32 == 6) = false := by assumption
   have f' := beq_eq_false_iff_ne.1 f
   exact ⟨ret3_of (by unfold wid; repeat' split
                      all_goals omega) (by unfold dig; repeat' split
                                           all_goals omega) (by unfold lst; repeat' split
                                                                all_goals omega), rfl⟩
theorem ret_bool {a b : Bool} (h : a = b) : Ending.returned (.bool a) = .returned (.bool b) := by rw [h]
theorem allowed_any (r : Int) (w : World) :
 Calls Tryz.prog 169 #[.int .i32 r] w fun e w' => e = .returned (.bool (alw r)) ∧ w' = w := by
 go_enter Tryz.func169, Tryz.ntmps169;by_cases h1 : r < 55296
 · go_wp2
   go_ret;exact ⟨ret_bool (by simp [alw, h1]), rfl⟩
 · by_cases h2 : 57343 < r
   · go_wp2
     go_ret;exact ⟨ret_bool (by simp [alw, h1, h2] <;> omega), rfl⟩
   · go_wp2
     go_ret;exact ⟨ret_bool (by simp [alw, h1, h2] <;> omega), rfl⟩
end
end Go.Proofs.YtofgphapjjofnaaGreatDoor

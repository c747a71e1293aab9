/- What stands for a rune within quotes, and what its bytes are. -/
import Derived.Laws.Runes
import Derived.Laws.Cover4
import Derived.Test.YtponficlejjafaaDoorD1
import Derived.Test.YtponficlejjafaaDoorP0
namespace Go.Proofs.YtponficlejjafaaDoor
set_option linter.unusedSimpArgs false
set_option linter.unusedVariables false
open Go.RowKit Go.Shelf

def hd (n : Nat) : UInt8 := if n < 10 then UInt8.ofNat (48 + n) else UInt8.ofNat (87 + n)
def hexB (n : Nat) : List UInt8 := if n < 16 then [hd n] else [hd (n / 16), hd (n % 16)]
/-- The bytes that stand for a rune. -/
def quo (r : Int) : List UInt8 :=
  if r = 92 then [92, 92] else if r = 34 then [92, 34] else if r = 10 then [92, 110] else if r = 13 then [92, 114] else if r = 9 then [92, 116]
  else if r < 32 ∨ r = 127 then [92, 117, 123] ++ hexB r.toNat ++ [125] else (Utf8.encode r).data.toList
theorem ctl_cases {r : Int} (h0 : 0 ≤ r) (h : r < 32 ∨ r = 127) (a : r ≠ 9) (b : r ≠ 10) (c : r ≠ 13) : r = 0 ∨ r = 1 ∨ r = 2 ∨ r = 3 ∨ r = 4 ∨ r = 5 ∨ r = 6 ∨ r = 7 ∨ r = 8 ∨ r = 11 ∨ r = 12 ∨ r = 14 ∨ r = 15 ∨ r = 16 ∨ r = 17 ∨ r = 18 ∨ r = 19 ∨ r = 20 ∨ r = 21 ∨ r = 22 ∨ r = 23 ∨ r = 24 ∨ r = 25 ∨ r = 26 ∨ r = 27 ∨ r = 28 ∨ r = 29 ∨ r = 30 ∨ r = 31 ∨ r = 127 := by omega
theorem quo_else {r : Int} (h : 32 ≤ r) (h1 : r ≠ 92) (h2 : r ≠ 34) (h3 : r ≠ 127) : quo r = (Utf8.encode r).data.toList := by
  unfold quo
  rw [if_neg h1, if_neg h2, if_neg (by omega), if_neg (by omega), if_neg (by omega), if_neg (by omega)]
theorem quo_ctl {r : Int} (h : r < 32 ∨ r = 127) (a : r ≠ 9) (b : r ≠ 10) (c : r ≠ 13) : quo r = [92, 117, 123] ++ hexB r.toNat ++ [125] := by
  unfold quo
  rw [if_neg (by omega), if_neg (by omega), if_neg b, if_neg c, if_neg a, if_pos h]
/-- Bytes within quotes, behind a byte p: none is below 32, none is 127, a quote stands behind a backslash. -/
def okB (p : UInt8) : List UInt8 → Prop
  | [] => True
  | b :: t => 32 ≤ b.toNat ∧ b.toNat ≠ 127 ∧ (b.toNat = 34 → p.toNat = 92) ∧ okB b t
def lastB (p : UInt8) : List UInt8 → UInt8
  | [] => p
  | b :: t => lastB b t
theorem okB_append : ∀ (l m : List UInt8) (p : UInt8), okB p l → okB (lastB p l) m → okB p (l ++ m)
  | [], m, p, _, h => h
  | b :: t, m, p, h1, h2 => ⟨h1.1, h1.2.1, h1.2.2.1, okB_append t m b h1.2.2.2 h2⟩
theorem okB_get : ∀ (l : List UInt8) (p : UInt8), okB p l → ∀ (i : Nat) (b q : UInt8), l[i]? = some b → (p :: l)[i]? = some q → 32 ≤ b.toNat ∧ b.toNat ≠ 127 ∧ (b.toNat = 34 → q.toNat = 92)
  | [], p, _, i, b, q, hb, _ => by simp at hb
  | c :: t, p, h, 0, b, q, hb, hq => by
    simp at hb hq
    subst hb; subst hq
    exact ⟨h.1, h.2.1, h.2.2.1⟩
  | c :: t, p, h, i + 1, b, q, hb, hq => okB_get t c h.2.2.2 i b q (by simpa using hb) (by simpa using hq)
theorem okB_high : ∀ (l : List UInt8) (p : UInt8), (∀ b ∈ l, 128 ≤ b.toNat) → okB p l
  | [], _, _ => trivial
  | b :: t, p, h => by
    have hb := h b (by simp)
    exact ⟨by omega, by omega, fun e => by omega, okB_high t b fun c hc => h c (by simp [hc])⟩
theorem encode_low {r : Int} (h0 : 0 ≤ r) (h : r < 128) : (Utf8.encode r).data.toList = [UInt8.ofNat r.toNat] := by
  have hv : Utf8.valid r = true := by rw [validRune_eq]; simp [validRune]; omega
  unfold Utf8.encode
  simp only [hv, if_true]
  rw [if_pos (by omega)]
theorem encode_high {r : Int} (h : 128 ≤ r) : ∀ b ∈ (Utf8.encode r).data.toList, 128 ≤ b.toNat := by
  have key : ∀ c : Nat, 128 ≤ c → c ≤ 1114111 → ∀ b ∈ (if c < 0x80 then (⟨#[UInt8.ofNat c]⟩ : ByteArray) else if c < 0x800 then ⟨#[UInt8.ofNat (0xC0 + c / 64), UInt8.ofNat (0x80 + c % 64)]⟩
      else if c < 0x10000 then ⟨#[UInt8.ofNat (0xE0 + c / 4096), UInt8.ofNat (0x80 + c / 64 % 64), UInt8.ofNat (0x80 + c % 64)]⟩
      else ⟨#[UInt8.ofNat (0xF0 + c / 262144), UInt8.ofNat (0x80 + c / 4096 % 64), UInt8.ofNat (0x80 + c / 64 % 64), UInt8.ofNat (0x80 + c % 64)]⟩).data.toList, 128 ≤ b.toNat := by
    intro c h1 h2 b hb
    rw [if_neg (by omega)] at hb
    split at hb
    · simp at hb
      rcases hb with rfl | rfl <;> simp <;> omega
    · split at hb
      · simp at hb
        rcases hb with rfl | rfl | rfl <;> simp <;> omega
      · simp at hb
        rcases hb with rfl | rfl | rfl | rfl <;> simp <;> omega
  unfold Utf8.encode
  by_cases hv : Utf8.valid r = true
  · have hr : r ≤ 1114111 := by rw [validRune_eq] at hv; simp [validRune] at hv; omega
    simp only [hv, if_true]
    exact key r.toNat (by omega) (by omega)
  · simp only [hv]
    exact key Utf8.runeError (by decide) (by decide)
theorem quo_ok {r : Int} (h0 : 0 ≤ r) (p : UInt8) : okB p (quo r) := by
  by_cases h1 : r = 92
  · subst h1; simp [quo, okB]
  by_cases h2 : r = 34
  · subst h2; simp [quo, okB]
  by_cases h3 : r = 10
  · subst h3; simp [quo, okB]
  by_cases h4 : r = 13
  · subst h4; simp [quo, okB]
  by_cases h5 : r = 9
  · subst h5; simp [quo, okB]
  by_cases h6 : r < 32 ∨ r = 127
  · rw [quo_ctl h6 h5 h3 h4]
    rcases ctl_cases h0 h6 h5 h3 h4 with rfl | rfl | rfl | rfl | rfl | rfl | rfl | rfl | rfl | rfl | rfl | rfl | rfl | rfl | rfl | rfl | rfl | rfl | rfl | rfl | rfl | rfl | rfl | rfl | rfl | rfl | rfl | rfl | rfl | rfl <;> simp [hexB, hd, okB]
  · rw [quo_else (by omega) h1 h2 (by omega)]
    by_cases h7 : r < 128
    · rw [encode_low h0 h7]
      refine ⟨?_, ?_, fun e => ?_, trivial⟩
      · simp; omega
      · simp; omega
      · simp at e; omega
    · exact okB_high _ _ (encode_high (by omega))
theorem quo_len {r : Int} (h0 : 0 ≤ r) : (quo r).length ≤ 16 := by
  by_cases h1 : r = 92
  · subst h1; simp [quo]
  by_cases h2 : r = 34
  · subst h2; simp [quo]
  by_cases h3 : r = 10
  · subst h3; simp [quo]
  by_cases h4 : r = 13
  · subst h4; simp [quo]
  by_cases h5 : r = 9
  · subst h5; simp [quo]
  by_cases h6 : r < 32 ∨ r = 127
  · rw [quo_ctl h6 h5 h3 h4]
    unfold hexB
    split <;> simp
  · rw [quo_else (by omega) h1 h2 (by omega)]
    have := encode_size_le r
    have e : (Utf8.encode r).data.toList.length = (Utf8.encode r).size := rfl
    omega
theorem flat_ok : ∀ (l : List (Nat × Int)) (p : UInt8), (∀ x ∈ l, 0 ≤ x.2) → okB p (flat quo l)
  | [], p, _ => trivial
  | x :: l, p, h => by
    have e : flat quo (x :: l) = quo x.2 ++ flat quo l := by simp [flat]
    rw [e]
    exact okB_append _ _ _ (quo_ok (h x (by simp)) p) (flat_ok l _ fun y hy => h y (by simp [hy]))
theorem lst_nonneg (x : Int) : 0 ≤ lst x := by unfold lst; repeat' split
                                               all_goals omega
theorem dRune_bd {g : Nat → Int} {len i : Nat} (hi : i < len) : 0 ≤ dRune g len i ∧ dRune g len i ≤ 1114111 := by
  rw [dRune_in hi]
  by_cases h : good g len i = true
  · rw [if_pos h]
    simp only [good, Bool.and_eq_true, decide_eq_true_eq, alw] at h
    have := lst_nonneg (g i)
    omega
  · rw [if_neg h]; omega
end Go.Proofs.YtponficlejjafaaDoor

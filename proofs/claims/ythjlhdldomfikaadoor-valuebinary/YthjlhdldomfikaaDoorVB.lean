/- What is reckoned of two numbers: ofNumbers; sum, difference. -/
import Derived.Test.YthjlhdldomfikaaDoorV5
namespace Go.Proofs.YthjlhdldomfikaaDoor
set_option linter.unusedSimpArgs false
set_option linter.unusedVariables false
set_option maxRecDepth 100000
open Go.RowKit Go.Shelf

def absN (n : Int) : Int := max n (-n)
theorem size_any (n : Int) (h : -9223372036854775807 ≤ n ∧ n ≤ 9223372036854775807) (m : Int) (hm : absN n = m) : Ret 65 #[.int .i64 n] (.int .u64 m) := by
  intro W
  obtain ⟨h1, h2⟩ := h
  unfold absN at hm
  go_enter Tryd.func65, Tryd.ntmps65
  go_wp2
  go_ret
  exact ⟨rfl, Below.refl _ _⟩
theorem exact_any (n : Int) (h : -9223372036854775807 ≤ n ∧ n ≤ 9223372036854775807) (b : Bool) (hb : decide (absN n ≤ 9007199254740991) = b) : Ret 63 #[.int .i64 n] (.tuple #[.int .i64 n, .bool b]) := by
  intro W
  obtain ⟨m, hm⟩ : ∃ m, absN n = m := ⟨_, rfl⟩
  have H := hide (size_any n h m hm)
  rw [hm] at hb
  clear h hm
  go_enter Tryd.func63, Tryd.ntmps63
  go_wp2_with (go_at_call 65; refine (unhide H _).mono ?_; rintro e w1 ⟨rfl, hb1⟩)
  refine bodyPost_ret (by first | (simp [results, Tryd.results63, go_sem]; done) | (simp [results, Tryd.results63, go_sem]; rfl)) rfl ⟨rfl, hb1⟩
theorem sum_any (a c : Int) (ha : -9007199254740991 ≤ a ∧ a ≤ 9007199254740991) (hc : -9007199254740991 ≤ c ∧ c ≤ 9007199254740991) (b : Bool) (hb : decide (absN (a + c) ≤ 9007199254740991) = b) : Ret 60 #[.int .i64 a, .int .i64 c] (.tuple #[.int .i64 (a + c), .bool b]) := by
  intro W
  have H := hide (exact_any (a + c) (by omega) b hb)
  obtain ⟨h1, h2⟩ := ha
  obtain ⟨h3, h4⟩ := hc
  clear hb
  go_enter Tryd.func60, Tryd.ntmps60
  go_wp2_with (go_at_call 63; refine (unhide H _).mono ?_; rintro e w1 ⟨rfl, hb1⟩)
  refine bodyPost_ret (by first | (simp [results, Tryd.results60, go_sem]; done) | (simp [results, Tryd.results60, go_sem]; rfl)) rfl ⟨rfl, hb1⟩
theorem difference_any (a c : Int) (ha : -9007199254740991 ≤ a ∧ a ≤ 9007199254740991) (hc : -9007199254740991 ≤ c ∧ c ≤ 9007199254740991) (b : Bool) (hb : decide (absN (a - c) ≤ 9007199254740991) = b) : Ret 34 #[.int .i64 a, .int .i64 c] (.tuple #[.int .i64 (a - c), .bool b]) := by
  intro W
  have H := hide (exact_any (a - c) (by omega) b hb)
  obtain ⟨h1, h2⟩ := ha
  obtain ⟨h3, h4⟩ := hc
  clear hb
  go_enter Tryd.func34, Tryd.ntmps34
  go_wp2_with (go_at_call 63; refine (unhide H _).mono ?_; rintro e w1 ⟨rfl, hb1⟩)
  refine bodyPost_ret (by first | (simp [results, Tryd.results34, go_sem]; done) | (simp [results, Tryd.results34, go_sem]; rfl)) rfl ⟨rfl, hb1⟩
theorem rest_zero (a : Int) : Ret 36 #[.int .i64 a, .int .i64 0] (.tuple #[.int .i64 0, .bool false]) := by
  intro W
  go_enter Tryd.func36, Tryd.ntmps36
  go_wp2
  refine bodyPost_ret (by first | (simp [results, Tryd.results36, go_sem]; done) | (simp [results, Tryd.results36, go_sem]; rfl)) rfl ⟨rfl, Below.refl _ _⟩
theorem rest_any (a c : Int) (ha : -9007199254740991 ≤ a ∧ a ≤ 9007199254740991) (hc : -9007199254740991 ≤ c ∧ c ≤ 9007199254740991) (h0 : c ≠ 0) : Ret 36 #[.int .i64 a, .int .i64 c] (.tuple #[.int .i64 (a.tmod c), .bool true]) := by
  intro W
  obtain ⟨h1, h2⟩ := ha
  obtain ⟨h3, h4⟩ := hc
  have e0 : (c == 0) = false := by simp [h0]
  go_enter Tryd.func36, Tryd.ntmps36
  go_wp2
  refine bodyPost_ret (by first | (simp [results, Tryd.results36, go_sem]; done) | (simp [results, Tryd.results36, go_sem]; rfl)) rfl ⟨rfl, Below.refl _ _⟩
def andP (a c : Int) : Int := wrap64 (bits BinOp.and IntKind.i32 (wrap32 a) (wrap32 c))
theorem and_any (a c : Int) : Ret 37 #[.int .i64 a, .int .i64 c] (.tuple #[.int .i64 (andP a c), .bool true]) := by
  intro W
  have H1 := hide (signed_any a)
  have H2 := hide (signed_any c)
  unfold andP
  obtain ⟨x, hx⟩ : ∃ x, wrap32 a = x := ⟨_, rfl⟩
  obtain ⟨y, hy⟩ : ∃ x, wrap32 c = x := ⟨_, rfl⟩
  rw [hx] at H1 ⊢
  rw [hy] at H2 ⊢
  clear hx hy
  go_enter Tryd.func37, Tryd.ntmps37
  go_wp2_with (first | (go_at_call_of 59 a; refine (unhide H1 _).mono ?_; rintro e w1 ⟨rfl, hb1⟩) | (go_at_call_of 59 c; refine (unhide H2 _).mono ?_; rintro e w2 ⟨rfl, hb2⟩))
  refine bodyPost_ret (by first | (simp [results, Tryd.results37, go_sem]; done) | (simp [results, Tryd.results37, go_sem]; rfl)) rfl ⟨rfl, (hb1.trans (hb2.mono hb1.size))⟩
def orP (a c : Int) : Int := wrap64 (bits BinOp.or IntKind.i32 (wrap32 a) (wrap32 c))
theorem or_any (a c : Int) : Ret 38 #[.int .i64 a, .int .i64 c] (.tuple #[.int .i64 (orP a c), .bool true]) := by
  intro W
  have H1 := hide (signed_any a)
  have H2 := hide (signed_any c)
  unfold orP
  obtain ⟨x, hx⟩ : ∃ x, wrap32 a = x := ⟨_, rfl⟩
  obtain ⟨y, hy⟩ : ∃ x, wrap32 c = x := ⟨_, rfl⟩
  rw [hx] at H1 ⊢
  rw [hy] at H2 ⊢
  clear hx hy
  go_enter Tryd.func38, Tryd.ntmps38
  go_wp2_with (first | (go_at_call_of 59 a; refine (unhide H1 _).mono ?_; rintro e w1 ⟨rfl, hb1⟩) | (go_at_call_of 59 c; refine (unhide H2 _).mono ?_; rintro e w2 ⟨rfl, hb2⟩))
  refine bodyPost_ret (by first | (simp [results, Tryd.results38, go_sem]; done) | (simp [results, Tryd.results38, go_sem]; rfl)) rfl ⟨rfl, (hb1.trans (hb2.mono hb1.size))⟩
def eitherP (a c : Int) : Int := wrap64 (bits BinOp.xor IntKind.i32 (wrap32 a) (wrap32 c))
theorem either_any (a c : Int) : Ret 39 #[.int .i64 a, .int .i64 c] (.tuple #[.int .i64 (eitherP a c), .bool true]) := by
  intro W
  have H1 := hide (signed_any a)
  have H2 := hide (signed_any c)
  unfold eitherP
  obtain ⟨x, hx⟩ : ∃ x, wrap32 a = x := ⟨_, rfl⟩
  obtain ⟨y, hy⟩ : ∃ x, wrap32 c = x := ⟨_, rfl⟩
  rw [hx] at H1 ⊢
  rw [hy] at H2 ⊢
  clear hx hy
  go_enter Tryd.func39, Tryd.ntmps39
  go_wp2_with (first | (go_at_call_of 59 a; refine (unhide H1 _).mono ?_; rintro e w1 ⟨rfl, hb1⟩) | (go_at_call_of 59 c; refine (unhide H2 _).mono ?_; rintro e w2 ⟨rfl, hb2⟩))
  refine bodyPost_ret (by first | (simp [results, Tryd.results39, go_sem]; done) | (simp [results, Tryd.results39, go_sem]; rfl)) rfl ⟨rfl, (hb1.trans (hb2.mono hb1.size))⟩
theorem places_any (n : Int) (p : Int) (hp : bits BinOp.and IntKind.i64 n 31 = p) : Ret 66 #[.int .i64 n] (.int .i64 p) := by
  intro W
  go_enter Tryd.func66, Tryd.ntmps66
  go_wp2
  go_ret
  exact ⟨rfl, Below.refl _ _⟩
def leftP (a p : Int) : Int := wrap64 (wrap32 (wrap32 a * 2 ^ p.toNat))
theorem left_any (a c p : Int) (hp : bits BinOp.and IntKind.i64 c 31 = p) (h0 : 0 ≤ p ∧ p ≤ 31) : Ret 40 #[.int .i64 a, .int .i64 c] (.tuple #[.int .i64 (leftP a p), .bool true]) := by
  intro W
  have H1 := hide (signed_any a)
  have H2 := hide (places_any c p hp)
  obtain ⟨h1, h2⟩ := h0
  unfold leftP
  obtain ⟨x, hx⟩ : ∃ x, wrap32 a = x := ⟨_, rfl⟩
  rw [hx] at H1 ⊢
  clear hx hp
  go_enter Tryd.func40, Tryd.ntmps40
  go_wp2_with (first | (go_at_call 59; refine (unhide H1 _).mono ?_; rintro e w1 ⟨rfl, hb1⟩) | (go_at_call 66; refine (unhide H2 _).mono ?_; rintro e w2 ⟨rfl, hb2⟩))
  refine bodyPost_ret (by first | (simp [results, Tryd.results40, go_sem]; done) | (simp [results, Tryd.results40, go_sem]; rfl)) rfl ⟨rfl, (hb1.trans (hb2.mono hb1.size))⟩
def rightP (a p : Int) : Int := wrap64 (wrap32 a / 2 ^ p.toNat)
theorem right_any (a c p : Int) (hp : bits BinOp.and IntKind.i64 c 31 = p) (h0 : 0 ≤ p ∧ p ≤ 31) : Ret 41 #[.int .i64 a, .int .i64 c] (.tuple #[.int .i64 (rightP a p), .bool true]) := by
  intro W
  have H1 := hide (signed_any a)
  have H2 := hide (places_any c p hp)
  obtain ⟨h1, h2⟩ := h0
  unfold rightP
  obtain ⟨x, hx⟩ : ∃ x, wrap32 a = x := ⟨_, rfl⟩
  rw [hx] at H1 ⊢
  clear hx hp
  go_enter Tryd.func41, Tryd.ntmps41
  go_wp2_with (first | (go_at_call 59; refine (unhide H1 _).mono ?_; rintro e w1 ⟨rfl, hb1⟩) | (go_at_call 66; refine (unhide H2 _).mono ?_; rintro e w2 ⟨rfl, hb2⟩))
  refine bodyPost_ret (by first | (simp [results, Tryd.results41, go_sem]; done) | (simp [results, Tryd.results41, go_sem]; rfl)) rfl ⟨rfl, (hb1.trans (hb2.mono hb1.size))⟩
def rightNP (a p : Int) : Int := wrap64 (a % 4294967296 / 2 ^ p.toNat)
theorem rightN_any (a c p : Int) (hp : bits BinOp.and IntKind.i64 c 31 = p) (h0 : 0 ≤ p ∧ p ≤ 31) : Ret 42 #[.int .i64 a, .int .i64 c] (.tuple #[.int .i64 (rightNP a p), .bool true]) := by
  intro W
  have H2 := hide (places_any c p hp)
  obtain ⟨h1, h2⟩ := h0
  unfold rightNP
  clear hp
  go_enter Tryd.func42, Tryd.ntmps42
  go_wp2_with (go_at_call 66; refine (unhide H2 _).mono ?_; rintro e w2 ⟨rfl, hb2⟩)
  refine bodyPost_ret (by first | (simp [results, Tryd.results42, go_sem]; done) | (simp [results, Tryd.results42, go_sem]; rfl)) rfl ⟨rfl, hb2⟩
end Go.Proofs.YthjlhdldomfikaaDoor

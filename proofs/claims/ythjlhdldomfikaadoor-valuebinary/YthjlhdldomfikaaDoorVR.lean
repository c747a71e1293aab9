/- The reference's Binary of two numbers is the program's. -/
import Derived.Test.YthjlhdldomfikaaDoorVQ
namespace Go.Proofs.YthjlhdldomfikaaDoor
set_option linter.unusedSimpArgs false
set_option linter.unusedVariables false
set_option maxRecDepth 100000
open Go.RowKit Go.Shelf

theorem w32_low (a : Int) : wrap32 (a % 4294967296) = wrap32 a := by rw [w32, w32]; omega
theorem w32_congr {x y : Int} (h : x % 4294967296 = y % 4294967296) : wrap32 x = wrap32 y := by rw [w32, w32]; omega
theorem w32_mod (a : Int) : wrap32 a % 4294967296 = a % 4294967296 := by rw [w32]; omega
theorem w64_mod (a : Int) : wrap64 a % 4294967296 = a % 4294967296 := by rw [w64]; omega
theorem of64 (a : Int) : (BitVec.ofInt 64 (a % 4294967296)).toNat = u32 a := by
  rw [BitVec.toNat_ofInt]; unfold u32; omega
theorem i64_small (n : Nat) (h : n < 4294967296) : IntKind.i64.wrap (n : Int) = (n : Int) := by rw [wi64, w64]; omega
theorem and_eq (a b : Int) : wrap64 (wrap32 (bits BinOp.and IntKind.i64 (a % 4294967296) (b % 4294967296) % 4294967296)) = andP a b := by
  unfold andP
  rw [(bits32 a b).1, w32_low]
  show wrap64 (wrap32 (IntKind.i64.wrap ((BitVec.ofInt 64 (a % 4294967296) &&& BitVec.ofInt 64 (b % 4294967296)).toNat : Int))) = _
  rw [BitVec.toNat_and, of64, of64, i64_small _ (Nat.and_lt_two_pow _ (n := 32) (u32_lt b))]
theorem or_eq (a b : Int) : wrap64 (wrap32 (bits BinOp.or IntKind.i64 (a % 4294967296) (b % 4294967296) % 4294967296)) = orP a b := by
  unfold orP
  rw [(bits32 a b).2.1, w32_low]
  show wrap64 (wrap32 (IntKind.i64.wrap ((BitVec.ofInt 64 (a % 4294967296) ||| BitVec.ofInt 64 (b % 4294967296)).toNat : Int))) = _
  rw [BitVec.toNat_or, of64, of64, i64_small _ (Nat.or_lt_two_pow (n := 32) (u32_lt a) (u32_lt b))]
theorem xor_eq (a b : Int) : wrap64 (wrap32 (bits BinOp.xor IntKind.i64 (a % 4294967296) (b % 4294967296) % 4294967296)) = eitherP a b := by
  unfold eitherP
  rw [(bits32 a b).2.2, w32_low]
  show wrap64 (wrap32 (IntKind.i64.wrap ((BitVec.ofInt 64 (a % 4294967296) ^^^ BitVec.ofInt 64 (b % 4294967296)).toNat : Int))) = _
  rw [BitVec.toNat_xor, of64, of64, i64_small _ (Nat.xor_lt_two_pow (n := 32) (u32_lt a) (u32_lt b))]
theorem left_eq (a m : Int) : wrap32 (wrap64 (a % 4294967296 * m) % 4294967296) = wrap32 (wrap32 a * m) := by
  apply w32_congr
  rw [w64_mod, Int.emod_emod_of_dvd _ (Int.dvd_refl _), Int.mul_emod, Int.emod_emod_of_dvd _ (Int.dvd_refl _), ← w32_mod a, ← Int.mul_emod]
theorem shl_eq (a b : Int) : wrap64 (wrap32 (wrap64 (a % 4294967296 * 2 ^ (b % 32).toNat) % 4294967296)) = leftP a (plP b) := by
  unfold leftP
  rw [left_eq, plP_eq]
theorem shr_eq (a b : Int) : wrap64 (wrap32 (a % 4294967296) / 2 ^ (b % 32).toNat) = rightP a (plP b) := by
  unfold rightP
  rw [w32_low, plP_eq]
theorem shn_eq (a b : Int) : a % 4294967296 / 2 ^ (b % 32).toNat = rightNP a (plP b) := by
  unfold rightNP
  rw [plP_eq]
  have hp : (0 : Int) < 2 ^ (b % 32).toNat := by
    have := Int.pow_pos (n := 2) (m := (b % 32).toNat) (by omega)
    exact this
  have h1 : 0 ≤ a % 4294967296 / 2 ^ (b % 32).toNat := Int.ediv_nonneg (by omega) (by omega)
  have h2 : a % 4294967296 / 2 ^ (b % 32).toNat ≤ a % 4294967296 := Int.ediv_le_self _ (by omega)
  rw [w64]
  omega
theorem cmp_lt (a c : Int) : decide (a - c < 0) = decide (cmpP a c < 0) := by
  unfold cmpP; congr 1; apply propext; split <;> (try split) <;> omega
theorem cmp_le (a c : Int) : decide (a - c ≤ 0) = decide (cmpP a c ≤ 0) := by
  unfold cmpP; congr 1; apply propext; split <;> (try split) <;> omega
theorem cmp_gt (a c : Int) : decide (0 < a - c) = decide (0 < cmpP a c) := by
  unfold cmpP; congr 1; apply propext; split <;> (try split) <;> omega
theorem cmp_ge (a c : Int) : decide (0 ≤ a - c) = decide (0 ≤ cmpP a c) := by
  unfold cmpP; congr 1; apply propext; split <;> (try split) <;> omega
theorem rem_bound (a c : Int) (ha : -9007199254740991 ≤ a ∧ a ≤ 9007199254740991) : absN (a.tmod c) ≤ 9007199254740991 := by
  have n2 : (a.tmod c).natAbs ≤ a.natAbs := by rw [Int.natAbs_tmod]; exact Nat.mod_le _ _
  unfold absN
  omega
def opL (i : Nat) : ByteArray := match i with
  | 0 => ⟨#[43]⟩
  | 1 => ⟨#[45]⟩
  | 2 => ⟨#[42]⟩
  | 3 => ⟨#[37]⟩
  | 4 => ⟨#[38]⟩
  | 5 => ⟨#[124]⟩
  | 6 => ⟨#[94]⟩
  | 7 => ⟨#[60, 60]⟩
  | 8 => ⟨#[62, 62]⟩
  | 9 => ⟨#[62, 62, 62]⟩
  | 10 => ⟨#[60]⟩
  | 11 => ⟨#[60, 61]⟩
  | 12 => ⟨#[62]⟩
  | 13 => ⟨#[62, 61]⟩
  | 14 => ⟨#[61, 61, 61]⟩
  | 15 => ⟨#[33, 61, 61]⟩
  | _ => ByteArray.empty
theorem rBin_num (a0 c0 : Int) (ta tb : ByteArray) (i : Nat) (hi : i < 16) : Ret 13 #[.string (opL i), .agg (Vc 3 a0 ta), .agg (Vc 3 c0 tb)] (binN (opL i) (clampN a0) (clampN c0)).oc := by
  have ha := clamp_in a0
  have hc := clamp_in c0
  have HA : Ret 26 #[.agg (Vc 3 a0 ta)] (.agg (Vc 3 (clampN a0) ByteArray.empty)) := rSane_3 a0 ta
  have HB : Ret 26 #[.agg (Vc 3 c0 tb)] (.agg (Vc 3 (clampN c0) ByteArray.empty)) := rSane_3 c0 tb
  obtain ⟨a, ea⟩ : ∃ a, clampN a0 = a := ⟨_, rfl⟩
  obtain ⟨c, ec⟩ : ∃ a, clampN c0 = a := ⟨_, rfl⟩
  rw [ea] at HA ha ⊢
  rw [ec] at HB hc ⊢
  obtain ⟨h1, h2⟩ := ha
  obtain ⟨h3, h4⟩ := hc
  match i, hi with
  | 0, _ =>
    rw [show binN (opL 0) a c = _ from binN_2 a c]; exact rbn_add a c _ _ _ _ _ _ _ HA HB (rk_add a c h1 h2 h3 h4 _ (rexact_any _))
  | 1, _ =>
    rw [show binN (opL 1) a c = _ from binN_3 a c]; exact rbn_sub a c _ _ _ _ _ _ _ HA HB (rk_sub a c h1 h2 h3 h4 _ (rexact_any _))
  | 2, _ =>
    rw [show binN (opL 2) a c = _ from binN_4 a c]; exact rbn_mul a c _ _ _ _ _ _ _ HA HB (rk_mul a c h1 h2 h3 h4 _ (times_any a c ⟨h1, h2⟩ ⟨h3, h4⟩))
  | 3, _ =>
    rw [show binN (opL 3) a c = _ from binN_5 a c]
    unfold restR
    by_cases h0 : c = 0
    · rw [if_pos h0]; subst h0; exact rbn_rem a 0 _ _ _ _ _ _ _ HA HB (rk_rem0 a)
    · rw [if_neg h0]
      have := rexact_any (a.tmod c)
      rw [show decide (absN (a.tmod c) ≤ 9007199254740991) = true from by simpa using rem_bound a c ⟨h1, h2⟩] at this
      exact rbn_rem a c _ _ _ _ _ _ _ HA HB (rk_rem a c h1 h2 h3 h4 (by simp [h0]) h0 _ this)
  | 4, _ =>
    rw [show binN (opL 4) a c = _ from binN_6 a c]; exact rbn_and a c _ _ _ _ _ _ _ HA HB (by have := rk_and a c; rw [and_eq] at this; exact this)
  | 5, _ =>
    rw [show binN (opL 5) a c = _ from binN_7 a c]; exact rbn_or a c _ _ _ _ _ _ _ HA HB (by have := rk_or a c; rw [or_eq] at this; exact this)
  | 6, _ =>
    rw [show binN (opL 6) a c = _ from binN_8 a c]; exact rbn_xor a c _ _ _ _ _ _ _ HA HB (by have := rk_xor a c; rw [xor_eq] at this; exact this)
  | 7, _ =>
    rw [show binN (opL 7) a c = _ from binN_9 a c]; exact rbn_shl a c _ _ _ _ _ _ _ HA HB (by have := rk_shl a c; rw [shl_eq] at this; exact this)
  | 8, _ =>
    rw [show binN (opL 8) a c = _ from binN_10 a c]; exact rbn_shr a c _ _ _ _ _ _ _ HA HB (by have := rk_shr a c; rw [shr_eq] at this; exact this)
  | 9, _ =>
    rw [show binN (opL 9) a c = _ from binN_11 a c]; exact rbn_shn a c _ _ _ _ _ _ _ HA HB (by have := rk_shn a c; rw [shn_eq] at this; exact this)
  | 10, _ =>
    rw [show binN (opL 10) a c = _ from binN_12 a c]; exact rbn_lt a c _ _ _ _ _ _ _ HA HB h1 h2 h3 h4 (by have := ord_lt (a - c); rw [cmp_lt] at this; exact this)
  | 11, _ =>
    rw [show binN (opL 11) a c = _ from binN_13 a c]; exact rbn_le a c _ _ _ _ _ _ _ HA HB h1 h2 h3 h4 (by have := ord_le (a - c); rw [cmp_le] at this; exact this)
  | 12, _ =>
    rw [show binN (opL 12) a c = _ from binN_14 a c]; exact rbn_gt a c _ _ _ _ _ _ _ HA HB h1 h2 h3 h4 (by have := ord_gt (a - c); rw [cmp_gt] at this; exact this)
  | 13, _ =>
    rw [show binN (opL 13) a c = _ from binN_15 a c]; exact rbn_ge a c _ _ _ _ _ _ _ HA HB h1 h2 h3 h4 (by have := ord_ge (a - c); rw [cmp_ge] at this; exact this)
  | 14, _ =>
    rw [show binN (opL 14) a c = _ from binN_0 a c, ← eqV_num]; exact rb_eq 3 a 3 c _ _ _ _ _ _ _ _ HA HB
  | 15, _ =>
    rw [show binN (opL 15) a c = _ from binN_1 a c, ← eqV_num]; exact rb_ne 3 a 3 c _ _ _ _ _ _ _ _ HA HB
  | n + 16, h => exact absurd h (by omega)
end Go.Proofs.YthjlhdldomfikaaDoor

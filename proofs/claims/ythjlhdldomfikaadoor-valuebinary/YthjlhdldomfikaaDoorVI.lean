/- value.Binary of two numbers. -/
import Derived.Test.YthjlhdldomfikaaDoorVE
import Derived.Test.YthjlhdldomfikaaDoorVF
import Derived.Test.YthjlhdldomfikaaDoorVG
import Derived.Test.YthjlhdldomfikaaDoorV9
namespace Go.Proofs.YthjlhdldomfikaaDoor
set_option linter.unusedSimpArgs false
set_option linter.unusedVariables false
set_option maxRecDepth 100000
open Go.RowKit Go.Shelf

def exR (n : Int) (b : Bool) : R5 := if b then ⟨3, n, ByteArray.empty, ⟨#[]⟩, 0⟩ else ⟨0, 0, ByteArray.empty, ⟨#[]⟩, 2⟩
def restR (a c : Int) : R5 := if c = 0 then exR 0 false else exR (a.tmod c) true
/-- By how many digits a number shifts. -/
def plP (c : Int) : Int := bits BinOp.and IntKind.i64 c 31
theorem plP_eq (c : Int) : plP c = c % 32 := by
  show IntKind.i64.wrap ((BitVec.ofInt 64 c &&& BitVec.ofInt 64 31).toNat : Int) = _
  have e : (BitVec.ofInt 64 (31 : Int)).toNat = 2 ^ 5 - 1 := by decide
  rw [BitVec.toNat_and, e, Nat.and_two_pow_sub_one_eq_mod, BitVec.toNat_ofInt, wi64, w64]
  omega
theorem plP_in (c : Int) : 0 ≤ plP c ∧ plP c ≤ 31 := by rw [plP_eq]; omega
theorem ofNumbers_ex (g : FuncId) (hent : ∀ args w, (callFunc g args).run Tryd.prog w = .ok (.enter g args) w) (a c m : Int) (b : Bool) (s t : ByteArray) (HG : Ret g #[.int .i64 a, .int .i64 c] (.tuple #[.int .i64 m, .bool b])) :
    Ret 33 #[.agg (Vc 3 a s), .agg (Vc 3 c t), .func (.func g) #[] #[]] (exR m b).tr := by
  cases b
  · exact ofNumbers_inexact g hent a c m s t HG
  · exact ofNumbers_ok g hent a c m s t HG
theorem enter34 : ∀ args w, (callFunc 34 args).run Tryd.prog w = .ok (.enter 34 args) w := enters_of Tryd.func34 (by kernel_rfl) rfl
theorem enter35 : ∀ args w, (callFunc 35 args).run Tryd.prog w = .ok (.enter 35 args) w := enters_of Tryd.func35 (by kernel_rfl) rfl
theorem enter36 : ∀ args w, (callFunc 36 args).run Tryd.prog w = .ok (.enter 36 args) w := enters_of Tryd.func36 (by kernel_rfl) rfl
theorem enter37 : ∀ args w, (callFunc 37 args).run Tryd.prog w = .ok (.enter 37 args) w := enters_of Tryd.func37 (by kernel_rfl) rfl
theorem enter38 : ∀ args w, (callFunc 38 args).run Tryd.prog w = .ok (.enter 38 args) w := enters_of Tryd.func38 (by kernel_rfl) rfl
theorem enter39 : ∀ args w, (callFunc 39 args).run Tryd.prog w = .ok (.enter 39 args) w := enters_of Tryd.func39 (by kernel_rfl) rfl
theorem enter40 : ∀ args w, (callFunc 40 args).run Tryd.prog w = .ok (.enter 40 args) w := enters_of Tryd.func40 (by kernel_rfl) rfl
theorem enter41 : ∀ args w, (callFunc 41 args).run Tryd.prog w = .ok (.enter 41 args) w := enters_of Tryd.func41 (by kernel_rfl) rfl
theorem enter42 : ∀ args w, (callFunc 42 args).run Tryd.prog w = .ok (.enter 42 args) w := enters_of Tryd.func42 (by kernel_rfl) rfl
theorem enter44 : ∀ args w, (callFunc 44 args).run Tryd.prog w = .ok (.enter 44 args) w := enters_of Tryd.func44 (by kernel_rfl) rfl
theorem enter45 : ∀ args w, (callFunc 45 args).run Tryd.prog w = .ok (.enter 45 args) w := enters_of Tryd.func45 (by kernel_rfl) rfl
theorem enter46 : ∀ args w, (callFunc 46 args).run Tryd.prog w = .ok (.enter 46 args) w := enters_of Tryd.func46 (by kernel_rfl) rfl
theorem enter47 : ∀ args w, (callFunc 47 args).run Tryd.prog w = .ok (.enter 47 args) w := enters_of Tryd.func47 (by kernel_rfl) rfl
theorem enter60 : ∀ args w, (callFunc 60 args).run Tryd.prog w = .ok (.enter 60 args) w := enters_of Tryd.func60 (by kernel_rfl) rfl
/-- What Binary answers of two numbers. -/
def binN (op : ByteArray) (a c : Int) : R5 :=
  if op = ⟨#[61, 61, 61]⟩ then ⟨2, bI (decide (a = c)), ByteArray.empty, ⟨#[]⟩, 0⟩
  else if op = ⟨#[33, 61, 61]⟩ then ⟨2, bI (!decide (a = c)), ByteArray.empty, ⟨#[]⟩, 0⟩
  else if op = ⟨#[43]⟩ then exR (a + c) (decide (absN (a + c) ≤ 9007199254740991))
  else if op = ⟨#[45]⟩ then exR (a - c) (decide (absN (a - c) ≤ 9007199254740991))
  else if op = ⟨#[42]⟩ then exR (wrap64 (a * c)) (prodB a c)
  else if op = ⟨#[37]⟩ then restR a c
  else if op = ⟨#[38]⟩ then exR (andP a c) true
  else if op = ⟨#[124]⟩ then exR (orP a c) true
  else if op = ⟨#[94]⟩ then exR (eitherP a c) true
  else if op = ⟨#[60, 60]⟩ then exR (leftP a (plP c)) true
  else if op = ⟨#[62, 62]⟩ then exR (rightP a (plP c)) true
  else if op = ⟨#[62, 62, 62]⟩ then exR (rightNP a (plP c)) true
  else if op = ⟨#[60]⟩ then ⟨2, bI (decide (cmpP a c < 0)), ByteArray.empty, ⟨#[]⟩, 0⟩
  else if op = ⟨#[60, 61]⟩ then ⟨2, bI (decide (cmpP a c ≤ 0)), ByteArray.empty, ⟨#[]⟩, 0⟩
  else if op = ⟨#[62]⟩ then ⟨2, bI (decide (0 < cmpP a c)), ByteArray.empty, ⟨#[]⟩, 0⟩
  else if op = ⟨#[62, 61]⟩ then ⟨2, bI (decide (0 ≤ cmpP a c)), ByteArray.empty, ⟨#[]⟩, 0⟩
  else ⟨0, 0, ByteArray.empty, ⟨#[]⟩, 0⟩
theorem binN_0 (a c : Int) : binN ⟨#[61, 61, 61]⟩ a c = ⟨2, bI (decide (a = c)), ByteArray.empty, ⟨#[]⟩, 0⟩ := rfl
theorem binN_1 (a c : Int) : binN ⟨#[33, 61, 61]⟩ a c = ⟨2, bI (!decide (a = c)), ByteArray.empty, ⟨#[]⟩, 0⟩ := rfl
theorem binN_2 (a c : Int) : binN ⟨#[43]⟩ a c = exR (a + c) (decide (absN (a + c) ≤ 9007199254740991)) := rfl
theorem binN_3 (a c : Int) : binN ⟨#[45]⟩ a c = exR (a - c) (decide (absN (a - c) ≤ 9007199254740991)) := rfl
theorem binN_4 (a c : Int) : binN ⟨#[42]⟩ a c = exR (wrap64 (a * c)) (prodB a c) := rfl
theorem binN_5 (a c : Int) : binN ⟨#[37]⟩ a c = restR a c := rfl
theorem binN_6 (a c : Int) : binN ⟨#[38]⟩ a c = exR (andP a c) true := rfl
theorem binN_7 (a c : Int) : binN ⟨#[124]⟩ a c = exR (orP a c) true := rfl
theorem binN_8 (a c : Int) : binN ⟨#[94]⟩ a c = exR (eitherP a c) true := rfl
theorem binN_9 (a c : Int) : binN ⟨#[60, 60]⟩ a c = exR (leftP a (plP c)) true := rfl
theorem binN_10 (a c : Int) : binN ⟨#[62, 62]⟩ a c = exR (rightP a (plP c)) true := rfl
theorem binN_11 (a c : Int) : binN ⟨#[62, 62, 62]⟩ a c = exR (rightNP a (plP c)) true := rfl
theorem binN_12 (a c : Int) : binN ⟨#[60]⟩ a c = ⟨2, bI (decide (cmpP a c < 0)), ByteArray.empty, ⟨#[]⟩, 0⟩ := rfl
theorem binN_13 (a c : Int) : binN ⟨#[60, 61]⟩ a c = ⟨2, bI (decide (cmpP a c ≤ 0)), ByteArray.empty, ⟨#[]⟩, 0⟩ := rfl
theorem binN_14 (a c : Int) : binN ⟨#[62]⟩ a c = ⟨2, bI (decide (0 < cmpP a c)), ByteArray.empty, ⟨#[]⟩, 0⟩ := rfl
theorem binN_15 (a c : Int) : binN ⟨#[62, 61]⟩ a c = ⟨2, bI (decide (0 ≤ cmpP a c)), ByteArray.empty, ⟨#[]⟩, 0⟩ := rfl
theorem eqV_num (a c : Int) : eqV 3 a ByteArray.empty 3 c ByteArray.empty = decide (a = c) := by simp [eqV]
theorem Binary_num (op : ByteArray) (a0 c0 : Int) (ta tb : ByteArray) : Ret 12 #[.string op, .agg (Vc 3 a0 ta), .agg (Vc 3 c0 tb)] (binN op (clampN a0) (clampN c0)).tr := by
  have ha := clamp_in a0
  have hc := clamp_in c0
  have HA : Ret 20 #[.agg (Vc 3 a0 ta)] (.agg (Vc 3 (clampN a0) ByteArray.empty)) := settled_3 a0 ta
  have HB : Ret 20 #[.agg (Vc 3 c0 tb)] (.agg (Vc 3 (clampN c0) ByteArray.empty)) := settled_3 c0 tb
  obtain ⟨a, ea⟩ : ∃ a, clampN a0 = a := ⟨_, rfl⟩
  obtain ⟨c, ec⟩ : ∃ a, clampN c0 = a := ⟨_, rfl⟩
  rw [ea] at HA ha ⊢
  rw [ec] at HB hc ⊢
  refine bin_gen op 3 a0 3 c0 3 a 3 c ta tb _ _ HA HB _ ?_ ?_ ?_ ?_ ?_ ?_ ?_ ?_ ?_ ?_ ?_ ?_ ?_ ?_ ?_ ?_ ?_
  · intro h; subst h
    rw [binN_0, eqV_num]
  · intro h; subst h
    rw [binN_1, eqV_num]
  · intro h; subst h
    rw [binN_2]; exact plus_num a c _ _ _ (ofNumbers_ex 60 enter60 a c _ _ _ _ (sum_any a c ha hc _ rfl))
  · intro h; subst h
    rw [binN_3]; exact ofNumbers_ex 34 enter34 a c _ _ _ _ (difference_any a c ha hc _ rfl)
  · intro h; subst h
    rw [binN_4]; exact ofNumbers_ex 35 enter35 a c _ _ _ _ (product_any a c ha hc)
  · intro h; subst h
    rw [binN_5]; unfold restR; by_cases h0 : c = 0
    · rw [if_pos h0]; subst h0; exact ofNumbers_ex 36 enter36 a 0 _ _ _ _ (rest_zero a)
    · rw [if_neg h0]; exact ofNumbers_ex 36 enter36 a c _ _ _ _ (rest_any a c ha hc h0)
  · intro h; subst h
    rw [binN_6]; exact ofNumbers_ex 37 enter37 a c _ _ _ _ (and_any a c)
  · intro h; subst h
    rw [binN_7]; exact ofNumbers_ex 38 enter38 a c _ _ _ _ (or_any a c)
  · intro h; subst h
    rw [binN_8]; exact ofNumbers_ex 39 enter39 a c _ _ _ _ (either_any a c)
  · intro h; subst h
    rw [binN_9]; exact ofNumbers_ex 40 enter40 a c _ _ _ _ (left_any a c _ rfl (plP_in c))
  · intro h; subst h
    rw [binN_10]; exact ofNumbers_ex 41 enter41 a c _ _ _ _ (right_any a c _ rfl (plP_in c))
  · intro h; subst h
    rw [binN_11]; exact ofNumbers_ex 42 enter42 a c _ _ _ _ (rightN_any a c _ rfl (plP_in c))
  · intro h; subst h
    rw [binN_12]; exact ordered_num 44 enter44 a c _ _ _ _ (cmp_any a c) (ask44 _)
  · intro h; subst h
    rw [binN_13]; exact ordered_num 45 enter45 a c _ _ _ _ (cmp_any a c) (ask45 _)
  · intro h; subst h
    rw [binN_14]; exact ordered_num 46 enter46 a c _ _ _ _ (cmp_any a c) (ask46 _)
  · intro h; subst h
    rw [binN_15]; exact ordered_num 47 enter47 a c _ _ _ _ (cmp_any a c) (ask47 _)
  · intro h0 h1 h2 h3 h4 h5 h6 h7 h8 h9 h10 h11 h12 h13 h14 h15
    unfold binN
    rw [if_neg h0, if_neg h1, if_neg h2, if_neg h3, if_neg h4, if_neg h5, if_neg h6, if_neg h7, if_neg h8, if_neg h9, if_neg h10, if_neg h11, if_neg h12, if_neg h13, if_neg h14, if_neg h15]
end Go.Proofs.YthjlhdldomfikaaDoor

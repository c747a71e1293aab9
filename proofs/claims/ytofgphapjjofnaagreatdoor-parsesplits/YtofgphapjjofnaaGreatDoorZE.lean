/- Towards the law: X1 T8 T9 TA SHS TB. -/
import Derived.Laws.IdiomStrings
import Derived.Lib.Slices
import Derived.LoopN
import Derived.RangeFuncBox
import Derived.Shelf.Strings.Split
import Derived.Test.YtofgphapjjofnaaGreatDoorM0
import Derived.Test.YtofgphapjjofnaaGreatDoorMA
import Derived.Test.YtofgphapjjofnaaGreatDoorMA
import Derived.Test.YtofgphapjjofnaaGreatDoorProg
import Derived.Test.YtofgphapjjofnaaGreatDoorZA
set_option linter.unusedSimpArgs false
set_option linter.unusedVariables false
set_option maxRecDepth 100000
set_option maxHeartbeats 8000000
namespace Go.Proofs.YtofgphapjjofnaaGreatDoor.Tr
section
open Go.RowKit
def isL (c : Int) : Bool := decide (65 ≤ c ∧ c ≤ 90) || decide (97 ≤ c ∧ c ≤ 122) || c == 95 || c == 36
def isD (c : Int) : Bool := decide (48 ≤ c ∧ c ≤ 57)
theorem isDigit_any (c : Int) (w : World) : Calls Tryz.prog 124 #[.int .u8 c] w fun e w' => e = .returned (.bool (isD c)) ∧ w' = w := by
 have HR : Hid (isD c = (decide (48 ≤ c) && decide (c ≤ 57))) := by show isD c = _; simp [isD]
 by_cases h1 : 48 ≤ c
 · have a1 : decide (48 ≤ c) = true := by simpa using h1
   go_enter Tryz.func124, Tryz.ntmps124;go_wp2;go_ret;rw [U HR, a1];exact ⟨rfl, rfl⟩
 · have a1 : decide (48 ≤ c) = false := by simpa using h1
   go_enter Tryz.func124, Tryz.ntmps124;go_wp2;go_ret;rw [U HR, a1];exact ⟨rfl, rfl⟩
theorem isLetter_any (c : Int) (w : World) : Calls Tryz.prog 123 #[.int .u8 c] w fun e w' => e = .returned (.bool (isL c)) ∧ w' = w := by
 by_cases b1 : 65 ≤ c ∧ c ≤ 90
 · have a1 : decide (65 ≤ c) = true := by simpa using b1.1
   have a2 : decide (c ≤ 90) = true := by simpa using b1.2
   have n1 : 65 ≤ c := b1.1;have n2 : c ≤ 90 := b1.2;have m3 : ¬ 97 ≤ c := by omega
   have m4 : c ≤ 122 := by omega
   have HR : Hid (isL c = true) := by show isL c = true; simp [isL, b1]
   clear b1;go_enter Tryz.func123, Tryz.ntmps123;go_wp2;go_ret;rw [U HR];exact ⟨rfl, rfl⟩
 by_cases b2 : 97 ≤ c ∧ c ≤ 122
 · have a1 : decide (97 ≤ c) = true := by simpa using b2.1
   have a2 : decide (c ≤ 122) = true := by simpa using b2.2
   have n1 : 97 ≤ c := b2.1;have n2 : c ≤ 122 := b2.2;have n3 : 65 ≤ c := by omega
   have n4 : ¬ c ≤ 90 := by omega
   have HR : Hid (isL c = true) := by show isL c = true; simp [isL, b2]
   clear b1 b2;go_enter Tryz.func123, Tryz.ntmps123;go_wp2;go_ret;rw [U HR];exact ⟨rfl, rfl⟩
 by_cases h3 : c = 95
 · subst h3
   have HR : Hid (isL 95 = true) := by show isL 95 = true; rfl
   go_enter Tryz.func123, Tryz.ntmps123;go_wp2;go_ret;rw [U HR];exact ⟨rfl, rfl⟩
 by_cases h4 : c = 36
 · subst h4
   have HR : Hid (isL 36 = true) := by show isL 36 = true; rfl
   go_enter Tryz.func123, Tryz.ntmps123;go_wp2;go_ret;rw [U HR];exact ⟨rfl, rfl⟩
 have a3 : (c == 95) = false := by simpa using h3
 have a4 : (c == 36) = false := by simpa using h4
 have HR : Hid (isL c = false) := by show isL c = false; simp [isL, h3, h4]; omega
 by_cases c1 : 65 ≤ c
 · have c2 : ¬ c ≤ 90 := fun h => b1 ⟨c1, h⟩
   by_cases c3 : 97 ≤ c
   · have c4 : ¬ c ≤ 122 := fun h => b2 ⟨c3, h⟩
     clear b1 b2 h3 h4;go_enter Tryz.func123, Tryz.ntmps123;go_wp2;go_ret;rw [U HR];exact ⟨rfl, rfl⟩
   · clear b1 b2 h3 h4
     go_enter Tryz.func123, Tryz.ntmps123;go_wp2;go_ret;rw [U HR];exact ⟨rfl, rfl⟩
 · have c3 : ¬ 97 ≤ c := by omega
   clear b1 b2 h3 h4;go_enter Tryz.func123, Tryz.ntmps123;go_wp2;go_ret;rw [U HR];exact ⟨rfl, rfl⟩
def gS (s : ByteArray) (j : Nat) : Int := ((s.data[j]?.getD 0).toNat : Int)
theorem gS_bd (s : ByteArray) (j : Nat) : 0 ≤ gS s j ∧ gS s j ≤ 255 := by
 have := (s.data[j]?.getD 0).toNat_lt;unfold gS; omega
theorem ba_loop (s : ByteArray) : ∀ k i (r : List UInt8), s.size = i + k → ByteArray.toList.loop s i r = r.reverse ++ s.data.toList.drop i
 | 0, i, r, h => by
   rw [ByteArray.toList.loop];have hi : ¬ i < s.size := by omega
   rw [if_neg hi, List.drop_eq_nil_of_le (by have e : s.data.toList.length = s.size := rfl; omega)];simp
 | k + 1, i, r, h => by
   rw [ByteArray.toList.loop];have hi : i < s.size := by omega
   rw [if_pos hi, ba_loop s k (i + 1) _ (by omega)];have hl : i < s.data.toList.length := hi;rw [List.drop_eq_getElem_cons hl]
   have : s.get! i = s.data.toList[i] := by
    show s.data[i]! = _
    rw [getElem!_pos s.data i hi];simp
   simp [this]
theorem ba_toList (s : ByteArray) : s.toList = s.data.toList := by
 rw [ByteArray.toList, ba_loop s s.size 0 [] (by omega)];simp
def hasT (l : List ByteArray) (v : ByteArray) : Bool := l.any fun s => v.toList == s.toList
theorem hasT_mem {l : List ByteArray} {s : ByteArray} (h : hasT l s = true) : s ∈ l := by
 obtain ⟨t, ht, e⟩ := List.any_eq_true.1 h
 obtain rfl : s = t := by
  simp only [ba_toList, beq_iff_eq] at e;exact ByteArray.ext (Array.toList_inj.1 e)
 exact ht
theorem hasT_no {l : List ByteArray} {s : ByteArray} (h : hasT l s = false) : ∀ t ∈ l, (s.toList == t.toList) = false := fun t ht => by simpa using List.any_eq_false.1 h t ht
def unL : List ByteArray := [⟨#[33]⟩, ⟨#[45]⟩, ⟨#[126]⟩, ⟨#[116, 121, 112, 101, 111, 102]⟩]
theorem unary_any (s : ByteArray) (W : World) : Calls Tryz.prog 133 #[.string s] W fun x W' => x = .returned (.bool (hasT unL s)) ∧ W' = W := by
 cases hr : hasT unL s with
 | true =>
   have h := hasT_mem hr;clear hr;simp only [unL, List.mem_cons, List.not_mem_nil, or_false] at h;rcases h with rfl | rfl | rfl | rfl
   all_goals (
    go_enter Tryz.func133, Tryz.ntmps133;go_wp2;go_ret
    exact ⟨rfl, rfl⟩)
 | false =>
   have hno := hasT_no hr;clear hr;have q0 : (s.toList == [33]) = false := by have e := hno ⟨#[33]⟩ (by simp [unL]); rw [ba_toList ⟨#[33]⟩] at e; exact e
   have q1 : (s.toList == [45]) = false := by have e := hno ⟨#[45]⟩ (by simp [unL]); rw [ba_toList ⟨#[45]⟩] at e; exact e
   have q2 : (s.toList == [126]) = false := by have e := hno ⟨#[126]⟩ (by simp [unL]); rw [ba_toList ⟨#[126]⟩] at e; exact e
   have q3 : (s.toList == [116, 121, 112, 101, 111, 102]) = false := by have e := hno ⟨#[116, 121, 112, 101, 111, 102]⟩ (by simp [unL]); rw [ba_toList ⟨#[116, 121, 112, 101, 111, 102]⟩] at e; exact e
   clear hno;go_enter Tryz.func133, Tryz.ntmps133;go_wp2;go_ret;exact ⟨rfl, rfl⟩
def binL : List ByteArray := [⟨#[124, 124]⟩, ⟨#[38, 38]⟩, ⟨#[124]⟩, ⟨#[94]⟩, ⟨#[38]⟩, ⟨#[61, 61, 61]⟩, ⟨#[33, 61, 61]⟩, ⟨#[60]⟩, ⟨#[60, 61]⟩, ⟨#[62]⟩, ⟨#[62, 61]⟩, ⟨#[105, 110]⟩, ⟨#[60, 60]⟩, ⟨#[62, 62]⟩, ⟨#[62, 62, 62]⟩, ⟨#[43]⟩, ⟨#[45]⟩, ⟨#[42]⟩, ⟨#[37]⟩]
theorem binary_any (s : ByteArray) (W : World) : Calls Tryz.prog 134 #[.string s] W fun x W' => x = .returned (.bool (hasT binL s)) ∧ W' = W := by
 cases hr : hasT binL s with
 | true =>
   have h := hasT_mem hr;clear hr;simp only [binL, List.mem_cons, List.not_mem_nil, or_false] at h;rcases h with rfl | rfl | rfl | rfl | rfl | rfl | rfl | rfl | rfl | rfl | rfl | rfl | rfl | rfl | rfl | rfl | rfl | rfl | rfl
   all_goals (
    go_enter Tryz.func134, Tryz.ntmps134;go_wp2;go_ret
    exact ⟨rfl, rfl⟩)
 | false =>
   have hno := hasT_no hr;clear hr;have q0 : (s.toList == [124, 124]) = false := by have e := hno ⟨#[124, 124]⟩ (by simp [binL]); rw [ba_toList ⟨#[124, 124]⟩] at e; exact e
   have q1 : (s.toList == [38, 38]) = false := by have e := hno ⟨#[38, 38]⟩ (by simp [binL]); rw [ba_toList ⟨#[38, 38]⟩] at e; exact e
   have q2 : (s.toList == [124]) = false := by have e := hno ⟨#[124]⟩ (by simp [binL]); rw [ba_toList ⟨#[124]⟩] at e; exact e
   have q3 : (s.toList == [94]) = false := by have e := hno ⟨#[94]⟩ (by simp [binL]); rw [ba_toList ⟨#[94]⟩] at e; exact e
   have q4 : (s.toList == [38]) = false := by have e := hno ⟨#[38]⟩ (by simp [binL]); rw [ba_toList ⟨#[38]⟩] at e; exact e
   have q5 : (s.toList == [61, 61, 61]) = false := by have e := hno ⟨#[61, 61, 61]⟩ (by simp [binL]); rw [ba_toList ⟨#[61, 61, 61]⟩] at e; exact e
   have q6 : (s.toList == [33, 61, 61]) = false := by have e := hno ⟨#[33, 61, 61]⟩ (by simp [binL]); rw [ba_toList ⟨#[33, 61, 61]⟩] at e; exact e
   have q7 : (s.toList == [60]) = false := by have e := hno ⟨#[60]⟩ (by simp [binL]); rw [ba_toList ⟨#[60]⟩] at e; exact e
   have q8 : (s.toList == [60, 61]) = false := by have e := hno ⟨#[60, 61]⟩ (by simp [binL]); rw [ba_toList ⟨#[60, 61]⟩] at e; exact e
   have q9 : (s.toList == [62]) = false := by have e := hno ⟨#[62]⟩ (by simp [binL]); rw [ba_toList ⟨#[62]⟩] at e; exact e
   have q10 : (s.toList == [62, 61]) = false := by have e := hno ⟨#[62, 61]⟩ (by simp [binL]); rw [ba_toList ⟨#[62, 61]⟩] at e; exact e
   have q11 : (s.toList == [105, 110]) = false := by have e := hno ⟨#[105, 110]⟩ (by simp [binL]); rw [ba_toList ⟨#[105, 110]⟩] at e; exact e
   have q12 : (s.toList == [60, 60]) = false := by have e := hno ⟨#[60, 60]⟩ (by simp [binL]); rw [ba_toList ⟨#[60, 60]⟩] at e; exact e
   have q13 : (s.toList == [62, 62]) = false := by have e := hno ⟨#[62, 62]⟩ (by simp [binL]); rw [ba_toList ⟨#[62, 62]⟩] at e; exact e
   have q14 : (s.toList == [62, 62, 62]) = false := by have e := hno ⟨#[62, 62, 62]⟩ (by simp [binL]); rw [ba_toList ⟨#[62, 62, 62]⟩] at e; exact e
   have q15 : (s.toList == [43]) = false := by have e := hno ⟨#[43]⟩ (by simp [binL]); rw [ba_toList ⟨#[43]⟩] at e; exact e
   have q16 : (s.toList == [45]) = false := by have e := hno ⟨#[45]⟩ (by simp [binL]); rw [ba_toList ⟨#[45]⟩] at e; exact e
   have q17 : (s.toList == [42]) = false := by have e := hno ⟨#[42]⟩ (by simp [binL]); rw [ba_toList ⟨#[42]⟩] at e; exact e
   have q18 : (s.toList == [37]) = false := by have e := hno ⟨#[37]⟩ (by simp [binL]); rw [ba_toList ⟨#[37]⟩] at e; exact e
   clear hno;go_enter Tryz.func134, Tryz.ntmps134;go_wp2;go_ret;exact ⟨rfl, rfl⟩
def asgL : List ByteArray := [⟨#[61]⟩, ⟨#[43, 61]⟩, ⟨#[45, 61]⟩, ⟨#[42, 61]⟩, ⟨#[37, 61]⟩]
theorem assign_any (s : ByteArray) (W : World) : Calls Tryz.prog 135 #[.string s] W fun x W' => x = .returned (.bool (hasT asgL s)) ∧ W' = W := by
 cases hr : hasT asgL s with
 | true =>
   have h := hasT_mem hr;clear hr;simp only [asgL, List.mem_cons, List.not_mem_nil, or_false] at h;rcases h with rfl | rfl | rfl | rfl | rfl
   all_goals (
    go_enter Tryz.func135, Tryz.ntmps135;go_wp2;go_ret
    exact ⟨rfl, rfl⟩)
 | false =>
   have hno := hasT_no hr;clear hr;have q0 : (s.toList == [61]) = false := by have e := hno ⟨#[61]⟩ (by simp [asgL]); rw [ba_toList ⟨#[61]⟩] at e; exact e
   have q1 : (s.toList == [43, 61]) = false := by have e := hno ⟨#[43, 61]⟩ (by simp [asgL]); rw [ba_toList ⟨#[43, 61]⟩] at e; exact e
   have q2 : (s.toList == [45, 61]) = false := by have e := hno ⟨#[45, 61]⟩ (by simp [asgL]); rw [ba_toList ⟨#[45, 61]⟩] at e; exact e
   have q3 : (s.toList == [42, 61]) = false := by have e := hno ⟨#[42, 61]⟩ (by simp [asgL]); rw [ba_toList ⟨#[42, 61]⟩] at e; exact e
   have q4 : (s.toList == [37, 61]) = false := by have e := hno ⟨#[37, 61]⟩ (by simp [asgL]); rw [ba_toList ⟨#[37, 61]⟩] at e; exact e
   clear hno;go_enter Tryz.func135, Tryz.ntmps135;go_wp2;go_ret;exact ⟨rfl, rfl⟩
def wordL : List ByteArray := [⟨#[98, 114, 101, 97, 107]⟩, ⟨#[99, 97, 116, 99, 104]⟩, ⟨#[99, 108, 97, 115, 115]⟩, ⟨#[99, 111, 110, 115, 116]⟩, ⟨#[99, 111, 110, 115, 116, 114, 117, 99, 116, 111, 114]⟩, ⟨#[99, 111, 110, 116, 105, 110, 117, 101]⟩, ⟨#[101, 108, 115, 101]⟩, ⟨#[101, 110, 117, 109]⟩, ⟨#[101, 120, 112, 111, 114, 116]⟩, ⟨#[101, 120, 116, 101, 110, 100, 115]⟩, ⟨#[102, 97, 108, 115, 101]⟩, ⟨#[102, 105, 110, 97, 108, 108, 121]⟩, ⟨#[102, 111, 114]⟩, ⟨#[102, 117, 110, 99, 116, 105, 111, 110]⟩, ⟨#[105, 102]⟩, ⟨#[105, 109, 112, 108, 101, 109, 101, 110, 116, 115]⟩, ⟨#[105, 110]⟩, ⟨#[105, 110, 116, 101, 114, 102, 97, 99, 101]⟩, ⟨#[108, 101, 116]⟩, ⟨#[110, 97, 109, 101, 115, 112, 97, 99, 101]⟩, ⟨#[110, 101, 119]⟩, ⟨#[110, 117, 108, 108]⟩, ⟨#[111, 102]⟩, ⟨#[112, 117, 98, 108, 105, 99]⟩, ⟨#[114, 101, 97, 100, 111, 110, 108, 121]⟩, ⟨#[114, 101, 116, 117, 114, 110]⟩, ⟨#[115, 117, 112, 101, 114]⟩, ⟨#[116, 104, 105, 115]⟩, ⟨#[116, 104, 114, 111, 119]⟩, ⟨#[116, 114, 117, 101]⟩, ⟨#[116, 114, 121]⟩, ⟨#[116, 121, 112, 101]⟩, ⟨#[116, 121, 112, 101, 111, 102]⟩, ⟨#[117, 110, 100, 101, 102, 105, 110, 101, 100]⟩, ⟨#[119, 104, 105, 108, 101]⟩, ⟨#[97, 115]⟩]
theorem res_any (s : ByteArray) (W : World) : Calls Tryz.prog 125 #[.string s] W fun x W' => x = .returned (.bool (hasT wordL s)) ∧ W' = W := by
 cases hr : hasT wordL s with
 | true =>
   have h := hasT_mem hr;clear hr;simp only [wordL, List.mem_cons, List.not_mem_nil, or_false] at h;rcases h with rfl | rfl | rfl | rfl | rfl | rfl | rfl | rfl | rfl | rfl | rfl | rfl | rfl | rfl | rfl | rfl | rfl | rfl | rfl | rfl | rfl | rfl | rfl | rfl | rfl | rfl | rfl | rfl | rfl | rfl | rfl | rfl | rfl | rfl | rfl | rfl
   all_goals (
    go_enter Tryz.func125, Tryz.ntmps125;go_wp2;go_ret
    exact ⟨rfl, rfl⟩)
 | false =>
   have hno := hasT_no hr;clear hr;have q0 : (s.toList == [98, 114, 101, 97, 107]) = false := by have e := hno ⟨#[98, 114, 101, 97, 107]⟩ (by simp [wordL]); rw [ba_toList ⟨#[98, 114, 101, 97, 107]⟩] at e; exact e
   have q1 : (s.toList == [99, 97, 116, 99, 104]) = false := by have e := hno ⟨#[99, 97, 116, 99, 104]⟩ (by simp [wordL]); rw [ba_toList ⟨#[99, 97, 116, 99, 104]⟩] at e; exact e
   have q2 : (s.toList == [99, 108, 97, 115, 115]) = false := by have e := hno ⟨#[99, 108, 97, 115, 115]⟩ (by simp [wordL]); rw [ba_toList ⟨#[99, 108, 97, 115, 115]⟩] at e; exact e
   have q3 : (s.toList == [99, 111, 110, 115, 116]) = false := by have e := hno ⟨#[99, 111, 110, 115, 116]⟩ (by simp [wordL]); rw [ba_toList ⟨#[99, 111, 110, 115, 116]⟩] at e; exact e
   have q4 : (s.toList == [99, 111, 110, 115, 116, 114, 117, 99, 116, 111, 114]) = false := by have e := hno ⟨#[99, 111, 110, 115, 116, 114, 117, 99, 116, 111, 114]⟩ (by simp [wordL]); rw [ba_toList ⟨#[99, 111, 110, 115, 116, 114, 117, 99, 116, 111, 114]⟩] at e; exact e
   have q5 : (s.toList == [99, 111, 110, 116, 105, 110, 117, 101]) = false := by have e := hno ⟨#[99, 111, 110, 116, 105, 110, 117, 101]⟩ (by simp [wordL]); rw [ba_toList ⟨#[99, 111, 110, 116, 105, 110, 117, 101]⟩] at e; exact e
   have q6 : (s.toList == [101, 108, 115, 101]) = false := by have e := hno ⟨#[101, 108, 115, 101]⟩ (by simp [wordL]); rw [ba_toList ⟨#[101, 108, 115, 101]⟩] at e; exact e
   have q7 : (s.toList == [101, 110, 117, 109]) = false := by have e := hno ⟨#[101, 110, 117, 109]⟩ (by simp [wordL]); rw [ba_toList ⟨#[101, 110, 117, 109]⟩] at e; exact e
   have q8 : (s.toList == [101, 120, 112, 111, 114, 116]) = false := by have e := hno ⟨#[101, 120, 112, 111, 114, 116]⟩ (by simp [wordL]); rw [ba_toList ⟨#[101, 120, 112, 111, 114, 116]⟩] at e; exact e
   have q9 : (s.toList == [101, 120, 116, 101, 110, 100, 115]) = false := by have e := hno ⟨#[101, 120, 116, 101, 110, 100, 115]⟩ (by simp [wordL]); rw [ba_toList ⟨#[101, 120, 116, 101, 110, 100, 115]⟩] at e; exact e
   have q10 : (s.toList == [102, 97, 108, 115, 101]) = false := by have e := hno ⟨#[102, 97, 108, 115, 101]⟩ (by simp [wordL]); rw [ba_toList ⟨#[102, 97, 108, 115, 101]⟩] at e; exact e
   have q11 : (s.toList == [102, 105, 110, 97, 108, 108, 121]) = false := by have e := hno ⟨#[102, 105, 110, 97, 108, 108, 121]⟩ (by simp [wordL]); rw [ba_toList ⟨#[102, 105, 110, 97, 108, 108, 121]⟩] at e; exact e
   have q12 : (s.toList == [102, 111, 114]) = false := by have e := hno ⟨#[102, 111, 114]⟩ (by simp [wordL]); rw [ba_toList ⟨#[102, 111, 114]⟩] at e; exact e
   have q13 : (s.toList == [102, 117, 110, 99, 116, 105, 111, 110]) = false := by have e := hno ⟨#[102, 117, 110, 99, 116, 105, 111, 110]⟩ (by simp [wordL]); rw [ba_toList ⟨#[102, 117, 110, 99, 116, 105, 111, 110]⟩] at e; exact e
   have q14 : (s.toList == [105, 102]) = false := by have e := hno ⟨#[105, 102]⟩ (by simp [wordL]); rw [ba_toList ⟨#[105, 102]⟩] at e; exact e
   have q15 : (s.toList == [105, 109, 112, 108, 101, 109, 101, 110, 116, 115]) = false := by have e := hno ⟨#[105, 109, 112, 108, 101, 109, 101, 110, 116, 115]⟩ (by simp [wordL]); rw [ba_toList ⟨#[105, 109, 112, 108, 101, 109, 101, 110, 116, 115]⟩] at e; exact e
   have q16 : (s.toList == [105, 110]) = false := by have e := hno ⟨#[105, 110]⟩ (by simp [wordL]); rw [ba_toList ⟨#[105, 110]⟩] at e; exact e
   have q17 : (s.toList == [105, 110, 116, 101, 114, 102, 97, 99, 101]) = false := by have e := hno ⟨#[105, 110, 116, 101, 114, 102, 97, 99, 101]⟩ (by simp [wordL]); rw [ba_toList ⟨#[105, 110, 116, 101, 114, 102, 97, 99, 101]⟩] at e; exact e
   have q18 : (s.toList == [108, 101, 116]) = false := by have e := hno ⟨#[108, 101, 116]⟩ (by simp [wordL]); rw [ba_toList ⟨#[108, 101, 116]⟩] at e; exact e
   have q19 : (s.toList == [110, 97, 109, 101, 115, 112, 97, 99, 101]) = false := by have e := hno ⟨#[110, 97, 109, 101, 115, 112, 97, 99, 101]⟩ (by simp [wordL]); rw [ba_toList ⟨#[110, 97, 109, 101, 115, 112, 97, 99, 101]⟩] at e; exact e
   have q20 : (s.toList == [110, 101, 119]) = false := by have e := hno ⟨#[110, 101, 119]⟩ (by simp [wordL]); rw [ba_toList ⟨#[110, 101, 119]⟩] at e; exact e
   have q21 : (s.toList == [110, 117, 108, 108]) = false := by have e := hno ⟨#[110, 117, 108, 108]⟩ (by simp [wordL]); rw [ba_toList ⟨#[110, 117, 108, 108]⟩] at e; exact e
   have q22 : (s.toList == [111, 102]) = false := by have e := hno ⟨#[111, 102]⟩ (by simp [wordL]); rw [ba_toList ⟨#[111, 102]⟩] at e; exact e
   have q23 : (s.toList == [112, 117, 98, 108, 105, 99]) = false := by have e := hno ⟨#[112, 117, 98, 108, 105, 99]⟩ (by simp [wordL]); rw [ba_toList ⟨#[112, 117, 98, 108, 105, 99]⟩] at e; exact e
   have q24 : (s.toList == [114, 101, 97, 100, 111, 110, 108, 121]) = false := by have e := hno ⟨#[114, 101, 97, 100, 111, 110, 108, 121]⟩ (by simp [wordL]); rw [ba_toList ⟨#[114, 101, 97, 100, 111, 110, 108, 121]⟩] at e; exact e
   have q25 : (s.toList == [114, 101, 116, 117, 114, 110]) = false := by have e := hno ⟨#[114, 101, 116, 117, 114, 110]⟩ (by simp [wordL]); rw [ba_toList ⟨#[114, 101, 116, 117, 114, 110]⟩] at e; exact e
   have q26 : (s.toList == [115, 117, 112, 101, 114]) = false := by have e := hno ⟨#[115, 117, 112, 101, 114]⟩ (by simp [wordL]); rw [ba_toList ⟨#[115, 117, 112, 101, 114]⟩] at e; exact e
   have q27 : (s.toList == [116, 104, 105, 115]) = false := by have e := hno ⟨#[116, 104, 105, 115]⟩ (by simp [wordL]); rw [ba_toList ⟨#[116, 104, 105, 115]⟩] at e; exact e
   have q28 : (s.toList == [116, 104, 114, 111, 119]) = false := by have e := hno ⟨#[116, 104, 114, 111, 119]⟩ (by simp [wordL]); rw [ba_toList ⟨#[116, 104, 114, 111, 119]⟩] at e; exact e
   have q29 : (s.toList == [116, 114, 117, 101]) = false := by have e := hno ⟨#[116, 114, 117, 101]⟩ (by simp [wordL]); rw [ba_toList ⟨#[116, 114, 117, 101]⟩] at e; exact e
   have q30 : (s.toList == [116, 114, 121]) = false := by have e := hno ⟨#[116, 114, 121]⟩ (by simp [wordL]); rw [ba_toList ⟨#[116, 114, 121]⟩] at e; exact e
   have q31 : (s.toList == [116, 121, 112, 101]) = false := by have e := hno ⟨#[116, 121, 112, 101]⟩ (by simp [wordL]); rw [ba_toList ⟨#[116, 121, 112, 101]⟩] at e; exact e
   have q32 : (s.toList == [116, 121, 112, 101, 111, 102]) = false := by have e := hno ⟨#[116, 121, 112, 101, 111, 102]⟩ (by simp [wordL]); rw [ba_toList ⟨#[116, 121, 112, 101, 111, 102]⟩] at e; exact e
   have q33 : (s.toList == [117, 110, 100, 101, 102, 105, 110, 101, 100]) = false := by have e := hno ⟨#[117, 110, 100, 101, 102, 105, 110, 101, 100]⟩ (by simp [wordL]); rw [ba_toList ⟨#[117, 110, 100, 101, 102, 105, 110, 101, 100]⟩] at e; exact e
   have q34 : (s.toList == [119, 104, 105, 108, 101]) = false := by have e := hno ⟨#[119, 104, 105, 108, 101]⟩ (by simp [wordL]); rw [ba_toList ⟨#[119, 104, 105, 108, 101]⟩] at e; exact e
   have q35 : (s.toList == [97, 115]) = false := by have e := hno ⟨#[97, 115]⟩ (by simp [wordL]); rw [ba_toList ⟨#[97, 115]⟩] at e; exact e
   clear hno;go_enter Tryz.func125, Tryz.ntmps125;go_wp2;go_ret;exact ⟨rfl, rfl⟩
def chN (s : ByteArray) : Nat → Bool
 | 0 => true
 | i + 1 => chN s i && (isL (gS s i) || (!(i == 0) && isD (gS s i)))
def nameB (s : ByteArray) : Bool := chN s s.size && !(s.size == 0) && !hasT wordL s
theorem chN_le {s : ByteArray} {i : Nat} (h : chN s i = false) : ∀ {j}, i ≤ j → chN s j = false
 | 0, hj => by obtain rfl : i = 0 := by omega
               exact h
 | j + 1, hj => by
   by_cases e : i = j + 1
   · subst e; exact h
   · show (chN s j && _) = false
     rw [chN_le h (by omega)]; rfl
theorem chN_false {s : ByteArray} {i n : Nat} (hi : i < n) (h : (isL (gS s i) || (!(i == 0) && isD (gS s i))) = false) : chN s n = false :=
 chN_le (i := i + 1) (by show (chN s i && _) = false; rw [h]; simp) hi
theorem idx_str (s : ByteArray) (i : Nat) (hi : i < s.size) (W : World) : (Instr.index 9 (.string s) (.int .i64 (i : Int))).run Tryz.prog W = .ok (.int .u8 (gS s i)) W := by
 rw [run_index_string W 9 s .i64 (i : Int) Tryz.underlying9, dif_pos ⟨by omega, by omega⟩]
 have e : ((s[(i : Int).toNat]'(by simpa using hi)).toNat : Int) = gS s i := by
  have h2 : i < s.data.size := hi;rw [gS, Array.getElem?_eq_getElem h2];simp
  rfl
 rw [e]
theorem name_any (s : ByteArray) (hs : s.size ≤ 140737488355328) (W : World) : Calls Tryz.prog 82 #[.string s] W fun e W' => e = .returned (.bool (nameB s)) ∧ W' = W := by
 go_enter Tryz.func82, Tryz.ntmps82;go_wp2;go_loopw [6] (fun t wr => ∃ i : Nat, i ≤ s.size ∧ t = .int .i64 (i : Int) ∧ chN s i = true ∧ wr = W) (fun t _ => s.size - (intOf t).toNat)
 case atStart => exact ⟨0, Nat.zero_le _, rfl, rfl, rfl⟩
 case round =>
  obtain ⟨i, hi, rfl, hc, hw⟩ := hrel;subst wr;have HC := Hi hc;clear hc;by_cases hil : i < s.size
  · have hil' : (i : Int) < s.size := by omega
    have hidx := idx_str s i hil W;obtain ⟨c, hcv⟩ : ∃ c, gS s i = c := ⟨_, rfl⟩;rw [hcv] at hidx;have HCV := Hi hcv;clear hcv;cases hL : isL c with
    | true =>
      have HU : Hid (chN s (i + 1) = true) := by show (chN s i && (isL (gS s i) || _)) = true; rw [U HC, U HCV, hL]; rfl
      have H1 := Hi hL;clear hL;go_wp2_with (go_at_call 123; refine (isLetter_any _ _).mono ?_; rintro e w2 ⟨he, rfl⟩; rw [U H1] at he; subst he);exact ⟨⟨i + 1, by omega, by go_num, U HU, trivial⟩, by simp [intOf]; omega⟩
    | false =>
      by_cases h0 : i = 0
      · have h0' : ((i : Int) == 0) = true := by simp only [beq_iff_eq]; omega
        have HF : Hid (nameB s = false) := by show (chN s s.size && _ && _) = false; rw [chN_false hil (by rw [U HCV, hL, h0]; rfl)]; rfl
        clear h0;have H1 := Hi hL;clear hL;go_wp2_with (go_at_call 123; refine (isLetter_any _ _).mono ?_; rintro e w2 ⟨he, rfl⟩; rw [U H1] at he; subst he);go_ret;exact ⟨ret_b (U HF).symm, rfl⟩
      · have h0' : ((i : Int) == 0) = false := by simp only [beq_eq_false_iff_ne]; omega
        have h0'' : (i == 0) = false := by simpa using h0
        have H0 := Hi h0'';clear h0'';cases hD : isD c with
        | true =>
          have HU : Hid (chN s (i + 1) = true) := by show (chN s i && (isL (gS s i) || (!(i == 0) && isD (gS s i)))) = true; rw [U HC, U HCV, hL, hD, U H0]; rfl
          have H1 := Hi hL;have H2 := Hi hD;clear hL hD h0;go_wp2_with (first | (go_at_call 123; refine (isLetter_any _ _).mono ?_; rintro e w2 ⟨he, rfl⟩; rw [U H1] at he; subst he) | (go_at_call 124; refine (isDigit_any _ _).mono ?_; rintro e w3 ⟨he, rfl⟩; rw [U H2] at he; subst he));exact ⟨⟨i + 1, by omega, by go_num, U HU, trivial⟩, by simp [intOf]; omega⟩
        | false =>
          have HF : Hid (nameB s = false) := by show (chN s s.size && _ && _) = false; rw [chN_false hil (by rw [U HCV, hL, hD]; simp)]; rfl
          have H1 := Hi hL;have H2 := Hi hD;clear hL hD h0;go_wp2_with (first | (go_at_call 123; refine (isLetter_any _ _).mono ?_; rintro e w2 ⟨he, rfl⟩; rw [U H1] at he; subst he) | (go_at_call 124; refine (isDigit_any _ _).mono ?_; rintro e w3 ⟨he, rfl⟩; rw [U H2] at he; subst he));go_ret;exact ⟨ret_b (U HF).symm, rfl⟩
  · have hil' : ¬ (i : Int) < s.size := by omega
    have e : i = s.size := by omega
    have HC' : Hid (chN s s.size = true) := by rw [← e]; exact U HC
    by_cases h0 : s.size = 0
    · have e0 : s = ⟨#[]⟩ := by
       apply ByteArray.ext
       exact Array.size_eq_zero_iff.1 h0
      have HF : Hid (nameB s = false) := by show (_ && !(s.size == 0) && _) = false; rw [h0]; simp
      subst e0;go_wp2;go_ret;exact ⟨ret_b (U HF).symm, rfl⟩
    · have hne : (s.toList == []) = false := by
       rw [ba_toList, beq_eq_false_iff_ne];intro e;apply h0
       have : s.data.toList.length = 0 := by rw [e]; rfl
       exact this
      have HF : Hid (nameB s = !hasT wordL s) := by
       have h0' : (s.size == 0) = false := by simpa using h0
       show (chN s s.size && !(s.size == 0) && !hasT wordL s) = _
       rw [U HC', h0']; rfl
      clear h0 e;go_wp2_with (go_at_call 125; refine (res_any _ _).mono ?_; rintro e w2 ⟨rfl, rfl⟩);go_ret;exact ⟨ret_b (U HF).symm, rfl⟩
theorem name_ok : TextOk 82 nameB := fun W s hs => (name_any s (by omega) W).mono fun e w' ⟨h1, h2⟩ => ⟨h1, by rw [h2]; exact Below.refl _ _⟩
theorem unary_ok : TextOk 133 (hasT unL) := fun W s hs => (unary_any s W).mono fun e w' ⟨h1, h2⟩ => ⟨h1, by rw [h2]; exact Below.refl _ _⟩
theorem binary_ok : TextOk 134 (hasT binL) := fun W s hs => (binary_any s W).mono fun e w' ⟨h1, h2⟩ => ⟨h1, by rw [h2]; exact Below.refl _ _⟩
theorem assign_ok : TextOk 135 (hasT asgL) := fun W s hs => (assign_any s W).mono fun e w' ⟨h1, h2⟩ => ⟨h1, by rw [h2]; exact Below.refl _ _⟩
def gdT (g : Nat → Int) (len : Nat) : Nat → Nat → Bool
 | 0, _ => true
 | f + 1, at' => if at' < len then dGood g len at' && gdT g len f (at' + stepN g len at') else true
def goodB (s : ByteArray) : Bool := gdT (gS s) s.size s.size 0
theorem conv_str (s : ByteArray) (w : World) (hs : s.size ≤ 140737488355328) : ∃ cap C fr, (convert 9 22 (.string s)).run Tryz.prog w = .ok (.slice (some ⟨w.heap.size, 0, none⟩) s.size cap) (w.drew.alloc (.cells C 5 fr)) ∧
 s.size ≤ cap ∧ cap ≤ maxLen ∧ ∀ j, j < s.size → C[j]? = some (.int .u8 (gS s j)) := by
 refine ⟨_, _, _, run_bytes_of_string w 9 22 5 s Tryz.underlying9 Tryz.underlying22 Tryz.underlying5, grownCap_ge _ _ _ _, grownCap_le_maxLen _ _ _ _ (by unfold maxLen; omega), fun j hj => ?_⟩;have hj' : j < s.data.size := hj;have hj2 : j < s.size := hj;simp [bytesRow, Array.getElem?_append, hj', hj2, gS]
theorem good_ok : TextOk 79 goodB := fun W s hs => by
 obtain ⟨cap, C, fr, hcv, hcap, hcm, hC⟩ := conv_str s W (by omega)
 have hcell : ∀ j, j < s.size → (W.alloc (.cells C 5 fr)).cell? ⟨W.heap.size, 0 + j, none⟩ = some (.int .u8 (gS s j)) := fun j hj => by
  rw [Lib.cell_of_heap (World.alloc_heap_new W _), Nat.zero_add]; exact hC j hj
 have HD : Hid (∀ i, i < s.size → Calls Tryz.prog 121 #[.slice (some ⟨W.heap.size, 0, none⟩) s.size cap, .int .i64 (i : Int)] (W.alloc (.cells C 5 fr)).drew fun e w' => e = .returned (.tuple #[.int .i32 (dRune (gS s) s.size i), .int .i64 (dSize (gS s) s.size i), .bool (dGood (gS s) s.size i)]) ∧ w' = (W.alloc (.cells C 5 fr)).drew) := fun i hi =>
  decode_in W.heap.size 0 s.size cap i (gS s) (gS_bd s) _ hi hcap hcm hcell
 have hB0 : Below W.heap.size W (W.alloc (.cells C 5 fr)).drew := ((Below.refl _ W).alloc NL _).drew;clear hcell hC hcap hcm;go_enter Tryz.func79, Tryz.ntmps79;go_wp2;go_loopw [4] (fun t wr => ∃ k : Nat, Before (gS s) s.size k ∧ t = .int .i64 (posn (gS s) s.size k : Int) ∧ goodB s = gdT (gS s) s.size (s.size - k) (posn (gS s) s.size k) ∧ wr = (W.alloc (.cells C 5 fr)).drew) (fun t _ => s.size - (intOf t).toNat)
 case atStart => exact ⟨0, fun j hj => by omega, rfl, rfl, rfl⟩
 case round =>
  obtain ⟨k, hbf, rfl, hgd, hw⟩ := hrel;subst wr;have HG := Hi hgd;clear hgd hcv;have hkl := posn_ge hbf;have hpl := posn_le (gS s) s.size k;by_cases hlt : posn (gS s) s.size k < s.size
  · have hlt' : (posn (gS s) s.size k : Int) < s.size := by omega
    have hds := dSize_nat (gS s) s.size (posn (gS s) s.size k);have hsl := step_le (g := gS s) (Nat.le_of_lt hlt);have hsp := step_pos (g := gS s) hlt;obtain ⟨f, hf⟩ : ∃ f, s.size - k = f + 1 := ⟨s.size - k - 1, by omega⟩
    have hstep : goodB s = (dGood (gS s) s.size (posn (gS s) s.size k) && gdT (gS s) s.size f (posn (gS s) s.size (k + 1))) := by
     rw [U HG, hf];simp only [gdT, if_pos hlt, posn]
    have HST := Hi hstep;have HF := Hi hf;clear hstep hf;cases hq : dGood (gS s) s.size (posn (gS s) s.size k : Int) with
    | true =>
      have HQ := Hi hq;clear hq;go_wp2_with (go_at_call 121; refine (U HD _ hlt).mono ?_; rintro e w2 ⟨he, rfl⟩; rw [U HQ, hds] at he; subst he);refine ⟨⟨k + 1, hbf.succ hlt, by simp only [posn]; go_num, ?_, trivial⟩, by simp [intOf]; omega⟩;have hf := U HF;rw [U HST, U HQ, show s.size - (k + 1) = f from by omega]; rfl
    | false =>
      have HR : Hid (goodB s = false) := by show goodB s = false; rw [U HST, hq]; rfl
      have HQ := Hi hq;clear hq;go_wp2_with (go_at_call 121; refine (U HD _ hlt).mono ?_; rintro e w2 ⟨he, rfl⟩; rw [U HQ, hds] at he; subst he);go_ret;exact ⟨ret_b (U HR).symm, hB0⟩
  · have hlt' : ¬ (posn (gS s) s.size k : Int) < s.size := by omega
    have HR : Hid (goodB s = true) := by
     show goodB s = true
     rw [U HG];cases s.size - k with
     | zero => rfl
     | succ f => simp only [gdT, if_neg hlt]
    go_wp2;go_ret;exact ⟨ret_b (U HR).symm, hB0⟩
end
section
open Go.Shelf
def Tryz.lays221_ren : Go.Shelf.Ren := ⟨fun | 221 => 167 | 268 => 210 | 138 => 211 | 143 => 212 | 195 => 229 | 197 => 230 | 218 => 231 | 219 => 232 | 260 => 252 | 217 => 253 | 225 => 254 | 224 => 255 | 267 => 256 | 266 => 261 | 314 => 262 | n => n, fun | 9 => 9 | 3 => 3 | 31 => 45 | 4 => 4 | 0 => 0 | 105 => 140 | 21 => 21 | 5 => 5 | 46 => 129 | 119 => 176 | 139 => 179 | 138 => 178 | 146 => 180 | 51 => 168 | n => n, fun | 1 => 0 | 3 => 3 | 4 => 4 | n => n⟩
theorem Tryz.lays221 : Go.Proofs.Lays.n221 Tryz.prog Tryz.lays221_ren := {
 mixed := by kernel_rfl
 f138 := Tryz.func211.trans (congrArg some (by kernel_rfl))
 f143 := Tryz.func212.trans (congrArg some (by kernel_rfl))
 f195 := Tryz.func229.trans (congrArg some (by kernel_rfl))
 f197 := Tryz.func230.trans (congrArg some (by kernel_rfl))
 f217 := Tryz.func253.trans (congrArg some (by kernel_rfl))
 f218 := Tryz.func231.trans (congrArg some (by kernel_rfl))
 f219 := Tryz.func232.trans (congrArg some (by kernel_rfl))
 f221 := Tryz.func167.trans (congrArg some (by kernel_rfl))
 f224 := Tryz.func255.trans (congrArg some (by kernel_rfl))
 f225 := Tryz.func254.trans (congrArg some (by kernel_rfl))
 f260 := Tryz.func252.trans (congrArg some (by kernel_rfl))
 f266 := Tryz.func261.trans (congrArg some (by kernel_rfl))
 f267 := Tryz.func256.trans (congrArg some (by kernel_rfl))
 f268 := Tryz.func210.trans (congrArg some (by kernel_rfl))
 f314 := Tryz.func262.trans (congrArg some (by kernel_rfl))
 t0 := Tryz.underlying0
 a0 := Tryz.isAgg0
 z0 := Tryz.sizeOf0
 v0 := Tryz.zeroValue0
 t3 := Tryz.underlying3
 a3 := Tryz.isAgg3
 z3 := Tryz.sizeOf3
 v3 := Tryz.zeroValue3
 t4 := Tryz.underlying4
 a4 := Tryz.isAgg4
 z4 := Tryz.sizeOf4
 v4 := Tryz.zeroValue4
 t5 := Tryz.underlying5
 a5 := Tryz.isAgg5
 z5 := Tryz.sizeOf5
 v5 := Tryz.zeroValue5
 t9 := Tryz.underlying9
 a9 := Tryz.isAgg9
 z9 := Tryz.sizeOf9
 v9 := Tryz.zeroValue9
 t21 := Tryz.underlying21
 a21 := Tryz.isAgg21
 z21 := Tryz.sizeOf21
 v21 := Tryz.zeroValue21
 t31 := Tryz.underlying45
 a31 := Tryz.isAgg45
 z31 := Tryz.sizeOf45
 v31 := Tryz.zeroValue45
 t46 := Tryz.underlying129
 a46 := Tryz.isAgg129
 z46 := Tryz.sizeOf129
 v46 := Tryz.zeroValue129
 t51 := Tryz.underlying168
 a51 := Tryz.isAgg168
 z51 := Tryz.sizeOf168
 v51 := Tryz.zeroValue168
 t105 := Tryz.underlying140
 a105 := Tryz.isAgg140
 z105 := Tryz.sizeOf140
 v105 := Tryz.zeroValue140
 t119 := Tryz.underlying176
 a119 := Tryz.isAgg176
 z119 := Tryz.sizeOf176
 t138 := Tryz.underlying178
 a138 := Tryz.isAgg178
 z138 := Tryz.sizeOf178
 v138 := Tryz.zeroValue178
 t139 := Tryz.underlying179
 a139 := Tryz.isAgg179
 z139 := Tryz.sizeOf179
 v139 := Tryz.zeroValue179
 t146 := Tryz.underlying180
 a146 := Tryz.isAgg180
 z146 := Tryz.sizeOf180
 v146 := Tryz.zeroValue180
 g1 := by kernel_rfl
 g3 := by kernel_rfl
 g4 := by kernel_rfl }
end
section
open Go.RowKit Go.Shelf
def parts (s : ByteArray) : List ByteArray := Lib.splitB ⟨#[46]⟩ 0 (Lib.countB s ⟨#[46]⟩) s
theorem parts_len (s : ByteArray) : (parts s).length = Lib.countB s ⟨#[46]⟩ + 1 := Lib.splitB_all ⟨#[46]⟩ (by decide) 0 _ s rfl
theorem parts_le (s : ByteArray) : (parts s).length ≤ s.size + 1 := by
 rw [parts_len];have := Lib.countB_le ⟨#[46]⟩ (by decide) s.size s NL;omega
theorem gen_dot (s : ByteArray) (W : World) (hs : s.size < 4294967281) : Calls Tryz.prog 167 #[.string s, .string ⟨#[46]⟩, .int .i64 0, .int .i64 (-1)] W fun e w' => e = .returned (.slice (some ⟨W.heap.size, 0, none⟩) (parts s).length (parts s).length) ∧ w' = W.alloc (.cells ((parts s).map Value.string).toArray 9) := by
 have hle := Lib.countB_le ⟨#[46]⟩ (by decide) s.size s NL
 have c := Any.strings_genSplit_core Tryz.lays221 (by kernel_rfl) s ⟨#[46]⟩ 0 (-1) (Lib.countB s ⟨#[46]⟩ + 1) W hs (by decide) (Nat.zero_le _)
  (fun x c hx => (Any.strings_Index_one { Tryz.lays221 with } x 46 _).mono fun e w' ⟨he, hw⟩ => ⟨by rw [he, ← Lib.index_one], hw⟩)
  ((Any.strings_Count_one { Tryz.lays221 with } s 46 W).mono fun e w' ⟨he, hw⟩ => ⟨by rw [he]; show _ = Ending.returned (Value.int .i64 ((Lib.count s.data.toList [46] : Nat) : Int)); rw [Lib.count_one]; rfl, hw⟩)
  (by decide) (by decide) (by rw [if_pos (by decide)]; omega)
 rw [Nat.add_sub_cancel] at c;have e2 : Lib.cellsOf (parts s) (Lib.countB s ⟨#[46]⟩ + 1) = ((parts s).map Value.string).toArray := by rw [← parts_len]; exact Lib.cellsOf_full _
 refine Calls.mono c fun e w' ⟨he, hw⟩ => ⟨?_, ?_⟩
 · rw [he]
   show Ending.returned (.slice (some ⟨W.heap.size, 0, none⟩) (parts s).length _) = _
   rw [parts_len]
 · rw [hw]
   show W.alloc (.cells (Lib.cellsOf (parts s) (Lib.countB s ⟨#[46]⟩ + 1)) 9) = _
   rw [e2]
theorem split_dot (s : ByteArray) (W : World) (hs : s.size < 4294967281) : Calls Tryz.prog 119 #[.string s, .string ⟨#[46]⟩] W fun e w' => e = .returned (.slice (some ⟨W.heap.size, 0, none⟩) (parts s).length (parts s).length) ∧ w' = W.alloc (.cells ((parts s).map Value.string).toArray 9) := by
 have HC := Hi (gen_dot s W hs);go_enter Tryz.func119, Tryz.ntmps119;go_wp2_with (go_at_call 167; refine (U HC).mono ?_; rintro e w' ⟨rfl, hw⟩; rw [hw]);go_ret;exact ⟨rfl, rfl⟩
def tnL : List ByteArray := [⟨#[110, 117, 108, 108]⟩, ⟨#[117, 110, 100, 101, 102, 105, 110, 101, 100]⟩, ⟨#[116, 114, 117, 101]⟩, ⟨#[102, 97, 108, 115, 101]⟩]
def tnB (s : ByteArray) : Bool := hasT tnL s || (parts s).all nameB
theorem splitB_size (sep : ByteArray) : ∀ (k : Nat) (s : ByteArray), ∀ x ∈ Lib.splitB sep 0 k s, x.size ≤ s.size
 | 0, s, x, hx => by simp [Lib.splitB] at hx; rw [hx]; exact NL
 | k + 1, s, x, hx => by
   simp only [Lib.splitB] at hx;split at hx
   · simp at hx; rw [hx]; exact NL
   · rcases List.mem_cons.1 hx with rfl | hx
     · simp; omega
     · have := splitB_size sep k _ x hx
       simp at this; omega
theorem part_size {s x : ByteArray} (h : x ∈ parts s) : x.size ≤ s.size := splitB_size _ _ _ _ h
theorem all_false {l : List ByteArray} {x : ByteArray} {k : Nat} (h : l[k]? = some x) (hx : nameB x = false) : l.all nameB = false := by
 rw [List.all_eq_false];exact ⟨x, List.mem_of_getElem? h, by simp [hx]⟩
theorem typeName_text : TextOk 76 tnB := fun W s hs => by
 cases hr : hasT tnL s with
 | true =>
   have h := hasT_mem hr;have HR : Hid (tnB s = true) := by show (hasT tnL s || _) = true; rw [hr]; rfl
   clear hr;simp only [tnL, List.mem_cons, List.not_mem_nil, or_false] at h;rcases h with rfl | rfl | rfl | rfl
   all_goals (
    go_enter Tryz.func76, Tryz.ntmps76;go_wp2;go_ret
    exact ⟨ret_b (U HR).symm, Below.refl _ _⟩)
 | false =>
   have hno := hasT_no hr;have HR : Hid (tnB s = (parts s).all nameB) := by show (hasT tnL s || _) = _; rw [hr]; rfl
   have q0 : (s.toList == [110, 117, 108, 108]) = false := by have e := hno ⟨#[110, 117, 108, 108]⟩ (by simp [tnL]); rw [ba_toList ⟨#[110, 117, 108, 108]⟩] at e; exact e
   have q1 : (s.toList == [117, 110, 100, 101, 102, 105, 110, 101, 100]) = false := by have e := hno ⟨#[117, 110, 100, 101, 102, 105, 110, 101, 100]⟩ (by simp [tnL]); rw [ba_toList ⟨#[117, 110, 100, 101, 102, 105, 110, 101, 100]⟩] at e; exact e
   have q2 : (s.toList == [116, 114, 117, 101]) = false := by have e := hno ⟨#[116, 114, 117, 101]⟩ (by simp [tnL]); rw [ba_toList ⟨#[116, 114, 117, 101]⟩] at e; exact e
   have q3 : (s.toList == [102, 97, 108, 115, 101]) = false := by have e := hno ⟨#[102, 97, 108, 115, 101]⟩ (by simp [tnL]); rw [ba_toList ⟨#[102, 97, 108, 115, 101]⟩] at e; exact e
   clear hno hr;have HC := Hi (split_dot s W (by omega));have hB0 : Below W.heap.size W (W.alloc (.cells ((parts s).map Value.string).toArray 9)) := (Below.refl _ W).alloc NL _
   have hcell : ∀ j x, (parts s)[j]? = some x → (W.alloc (.cells ((parts s).map Value.string).toArray 9)).cell? ⟨W.heap.size, j, none⟩ = some (.string x) := fun j x hj => by
    rw [Lib.cell_of_heap (World.alloc_heap_new W _)];simp [hj]
   have hpl := parts_le s;have HS : Hid (∀ x ∈ parts s, x.size ≤ s.size) := fun x hx => part_size hx
   obtain ⟨ps, hps⟩ : ∃ ps, parts s = ps := ⟨_, rfl⟩;rw [hps] at HR HC hB0 hcell hpl HS;clear hps;obtain ⟨W1, hW1⟩ : ∃ W1, W.alloc (.cells (ps.map Value.string).toArray 9) = W1 := ⟨_, rfl⟩;rw [hW1] at HC hB0 hcell;clear hW1;have HX := Hi hcell;clear hcell;go_enter Tryz.func76, Tryz.ntmps76;go_wp2_with (go_at_call 119; refine (U HC).mono ?_; rintro e w' ⟨rfl, hw⟩; rw [hw]);go_loopw [14] (fun t wr => ∃ i : Nat, i ≤ ps.length ∧ t = .int .i64 (i : Int) ∧ (∀ j x, j < i → ps[j]? = some x → nameB x = true) ∧ wr = W1) (fun t _ => ps.length - (intOf t).toNat)
   case atStart => exact ⟨0, Nat.zero_le _, rfl, fun j x h => by omega, rfl⟩
   case round =>
    obtain ⟨i, hi, rfl, hc, hw⟩ := hrel;subst wr;have HA := Hi hc;clear hc;by_cases hil : i < ps.length
    · have hil' : (i : Int) < ps.length := by omega
      obtain ⟨x, hx⟩ : ∃ x, ps[i]? = some x := ⟨_, List.getElem?_eq_getElem hil⟩;have hcell := U HX i x hx;have hxs := U HS x (List.mem_of_getElem? hx);have HXX := Hi hx;clear hx;cases hn : nameB x with
      | true =>
        have HN := Hi hn;clear hn;go_wp2_with (go_at_call 82; refine (name_any x (by omega) _).mono ?_; rintro e w2 ⟨he, rfl⟩; rw [U HN] at he; subst he);refine ⟨⟨i + 1, by omega, by go_num, fun j y hj hy => ?_, trivial⟩, by simp [intOf]; omega⟩;by_cases e : j = i
        · subst e
          have := hy.symm.trans (U HXX);cases this;exact U HN
        · exact U HA j y (by omega) hy
      | false =>
        have HF : Hid (tnB s = false) := by show tnB s = false; rw [U HR]; exact all_false (U HXX) hn
        have HN := Hi hn;clear hn;go_wp2_with (go_at_call 82; refine (name_any x (by omega) _).mono ?_; rintro e w2 ⟨he, rfl⟩; rw [U HN] at he; subst he);go_ret;exact ⟨ret_b (U HF).symm, hB0⟩
    · have hil' : ¬ (i : Int) < ps.length := by omega
      have HF : Hid (tnB s = true) := by
       show tnB s = true
       rw [U HR, List.all_eq_true];intro x hx;obtain ⟨j, hj⟩ := List.getElem?_of_mem hx;exact U HA j x (by have := (List.getElem?_eq_some_iff.1 hj).1; omega) hj
      go_wp2;go_ret;exact ⟨ret_b (U HF).symm, hB0⟩
end
end Go.Proofs.YtofgphapjjofnaaGreatDoor.Tr

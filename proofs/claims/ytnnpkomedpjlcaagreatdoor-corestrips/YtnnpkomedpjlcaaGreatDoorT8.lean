/- Words, signs and names: the texts of the table. -/
import Derived.Test.YtnnpkomedpjlcaaGreatDoorT1
import Derived.Test.YtnnpkomedpjlcaaGreatDoorX1
namespace Go.Proofs.YtnnpkomedpjlcaaGreatDoor
set_option linter.unusedSimpArgs false
set_option linter.unusedVariables false
open Go.RowKit

/-- The bytes of a string, by their places. -/
def gS (s : ByteArray) (j : Nat) : Int := ((s.data[j]?.getD 0).toNat : Int)
theorem gS_bd (s : ByteArray) (j : Nat) : 0 ≤ gS s j ∧ gS s j ≤ 255 := by
  have := (s.data[j]?.getD 0).toNat_lt
  unfold gS; omega
theorem ba_loop (s : ByteArray) : ∀ k i (r : List UInt8), s.size = i + k → ByteArray.toList.loop s i r = r.reverse ++ s.data.toList.drop i
  | 0, i, r, h => by
    rw [ByteArray.toList.loop]
    have hi : ¬ i < s.size := by omega
    rw [if_neg hi, List.drop_eq_nil_of_le (by have e : s.data.toList.length = s.size := rfl; omega)]
    simp
  | k + 1, i, r, h => by
    rw [ByteArray.toList.loop]
    have hi : i < s.size := by omega
    rw [if_pos hi, ba_loop s k (i + 1) _ (by omega)]
    have hl : i < s.data.toList.length := hi
    rw [List.drop_eq_getElem_cons hl]
    have : s.get! i = s.data.toList[i] := by
      show s.data[i]! = _
      rw [getElem!_pos s.data i hi]
      simp
    simp [this]
theorem ba_toList (s : ByteArray) : s.toList = s.data.toList := by
  rw [ByteArray.toList, ba_loop s s.size 0 [] (by omega)]
  simp
/-- Is a text among them? -/
def hasT (l : List ByteArray) (v : ByteArray) : Bool := l.any fun s => v.toList == s.toList
theorem hasT_mem {l : List ByteArray} {s : ByteArray} (h : hasT l s = true) : s ∈ l := by
  obtain ⟨t, ht, e⟩ := List.any_eq_true.1 h
  obtain rfl : s = t := by
    simp only [ba_toList, beq_iff_eq] at e
    exact ByteArray.ext (Array.toList_inj.1 e)
  exact ht
theorem hasT_no {l : List ByteArray} {s : ByteArray} (h : hasT l s = false) : ∀ t ∈ l, (s.toList == t.toList) = false := fun t ht => by simpa using List.any_eq_false.1 h t ht

/-- The signs of Unary. -/
def unL : List ByteArray := [⟨#[33]⟩, ⟨#[45]⟩, ⟨#[126]⟩, ⟨#[116, 121, 112, 101, 111, 102]⟩]
set_option maxRecDepth 100000 in
set_option maxHeartbeats 4000000 in
theorem unary_any (s : ByteArray) (W : World) : Calls Tryz.prog 97 #[.string s] W fun x W' => x = .returned (.bool (hasT unL s)) ∧ W' = W := by
  cases hr : hasT unL s with
  | true =>
    have h := hasT_mem hr
    clear hr
    simp only [unL, List.mem_cons, List.not_mem_nil, or_false] at h
    rcases h with rfl | rfl | rfl | rfl
    all_goals (
      go_enter Tryz.func97, Tryz.ntmps97
      go_wp2
      go_ret
      exact ⟨rfl, rfl⟩)
  | false =>
    have hno := hasT_no hr
    clear hr
    have q0 : (s.toList == [33]) = false := by have e := hno ⟨#[33]⟩ (by simp [unL]); rw [ba_toList ⟨#[33]⟩] at e; exact e
    have q1 : (s.toList == [45]) = false := by have e := hno ⟨#[45]⟩ (by simp [unL]); rw [ba_toList ⟨#[45]⟩] at e; exact e
    have q2 : (s.toList == [126]) = false := by have e := hno ⟨#[126]⟩ (by simp [unL]); rw [ba_toList ⟨#[126]⟩] at e; exact e
    have q3 : (s.toList == [116, 121, 112, 101, 111, 102]) = false := by have e := hno ⟨#[116, 121, 112, 101, 111, 102]⟩ (by simp [unL]); rw [ba_toList ⟨#[116, 121, 112, 101, 111, 102]⟩] at e; exact e
    clear hno
    go_enter Tryz.func97, Tryz.ntmps97
    go_wp2
    go_ret
    exact ⟨rfl, rfl⟩

/-- The signs of Binary. -/
def binL : List ByteArray := [⟨#[124, 124]⟩, ⟨#[38, 38]⟩, ⟨#[124]⟩, ⟨#[94]⟩, ⟨#[38]⟩, ⟨#[61, 61, 61]⟩, ⟨#[33, 61, 61]⟩, ⟨#[60]⟩, ⟨#[60, 61]⟩, ⟨#[62]⟩, ⟨#[62, 61]⟩, ⟨#[105, 110]⟩, ⟨#[60, 60]⟩, ⟨#[62, 62]⟩, ⟨#[62, 62, 62]⟩, ⟨#[43]⟩, ⟨#[45]⟩, ⟨#[42]⟩, ⟨#[37]⟩]
set_option maxRecDepth 100000 in
set_option maxHeartbeats 4000000 in
theorem binary_any (s : ByteArray) (W : World) : Calls Tryz.prog 98 #[.string s] W fun x W' => x = .returned (.bool (hasT binL s)) ∧ W' = W := by
  cases hr : hasT binL s with
  | true =>
    have h := hasT_mem hr
    clear hr
    simp only [binL, List.mem_cons, List.not_mem_nil, or_false] at h
    rcases h with rfl | rfl | rfl | rfl | rfl | rfl | rfl | rfl | rfl | rfl | rfl | rfl | rfl | rfl | rfl | rfl | rfl | rfl | rfl
    all_goals (
      go_enter Tryz.func98, Tryz.ntmps98
      go_wp2
      go_ret
      exact ⟨rfl, rfl⟩)
  | false =>
    have hno := hasT_no hr
    clear hr
    have q0 : (s.toList == [124, 124]) = false := by have e := hno ⟨#[124, 124]⟩ (by simp [binL]); rw [ba_toList ⟨#[124, 124]⟩] at e; exact e
    have q1 : (s.toList == [38, 38]) = false := by have e := hno ⟨#[38, 38]⟩ (by simp [binL]); rw [ba_toList ⟨#[38, 38]⟩] at e; exact e
    have q2 : (s.toList == [124]) = false := by have e := hno ⟨#[124]⟩ (by simp [binL]); rw [ba_toList ⟨#[124]⟩] at e; exact e
    have q3 : (s.toList == [94]) = false := by have e := hno ⟨#[94]⟩ (by simp [binL]); rw [ba_toList ⟨#[94]⟩] at e; exact e
    have q4 : (s.toList == [38]) = false := by have e := hno ⟨#[38]⟩ (by simp [binL]); rw [ba_toList ⟨#[38]⟩] at e; exact e
    have q5 : (s.toList == [61, 61, 61]) = false := by have e := hno ⟨#[61, 61, 61]⟩ (by simp [binL]); rw [ba_toList ⟨#[61, 61, 61]⟩] at e; exact e
    have q6 : (s.toList == [33, 61, 61]) = false := by have e := hno ⟨#[33, 61, 61]⟩ (by simp [binL]); rw [ba_toList ⟨#[33, 61, 61]⟩] at e; exact e
    have q7 : (s.toList == [60]) = false := by have e := hno ⟨#[60]⟩ (by simp [binL]); rw [ba_toList ⟨#[60]⟩] at e; exact e
    have q8 : (s.toList == [60, 61]) = false := by have e := hno ⟨#[60, 61]⟩ (by simp [binL]); rw [ba_toList ⟨#[60, 61]⟩] at e; exact e
    have q9 : (s.toList == [62]) = false := by have e := hno ⟨#[62]⟩ (by simp [binL]); rw [ba_toList ⟨#[62]⟩] at e; exact e
    have q10 : (s.toList == [62, 61]) = false := by have e := hno ⟨#[62, 61]⟩ (by simp [binL]); rw [ba_toList ⟨#[62, 61]⟩] at e; exact e
    have q11 : (s.toList == [105, 110]) = false := by have e := hno ⟨#[105, 110]⟩ (by simp [binL]); rw [ba_toList ⟨#[105, 110]⟩] at e; exact e
    have q12 : (s.toList == [60, 60]) = false := by have e := hno ⟨#[60, 60]⟩ (by simp [binL]); rw [ba_toList ⟨#[60, 60]⟩] at e; exact e
    have q13 : (s.toList == [62, 62]) = false := by have e := hno ⟨#[62, 62]⟩ (by simp [binL]); rw [ba_toList ⟨#[62, 62]⟩] at e; exact e
    have q14 : (s.toList == [62, 62, 62]) = false := by have e := hno ⟨#[62, 62, 62]⟩ (by simp [binL]); rw [ba_toList ⟨#[62, 62, 62]⟩] at e; exact e
    have q15 : (s.toList == [43]) = false := by have e := hno ⟨#[43]⟩ (by simp [binL]); rw [ba_toList ⟨#[43]⟩] at e; exact e
    have q16 : (s.toList == [45]) = false := by have e := hno ⟨#[45]⟩ (by simp [binL]); rw [ba_toList ⟨#[45]⟩] at e; exact e
    have q17 : (s.toList == [42]) = false := by have e := hno ⟨#[42]⟩ (by simp [binL]); rw [ba_toList ⟨#[42]⟩] at e; exact e
    have q18 : (s.toList == [37]) = false := by have e := hno ⟨#[37]⟩ (by simp [binL]); rw [ba_toList ⟨#[37]⟩] at e; exact e
    clear hno
    go_enter Tryz.func98, Tryz.ntmps98
    go_wp2
    go_ret
    exact ⟨rfl, rfl⟩

/-- The signs of Assign. -/
def asgL : List ByteArray := [⟨#[61]⟩, ⟨#[43, 61]⟩, ⟨#[45, 61]⟩, ⟨#[42, 61]⟩, ⟨#[37, 61]⟩]
set_option maxRecDepth 100000 in
set_option maxHeartbeats 4000000 in
theorem assign_any (s : ByteArray) (W : World) : Calls Tryz.prog 99 #[.string s] W fun x W' => x = .returned (.bool (hasT asgL s)) ∧ W' = W := by
  cases hr : hasT asgL s with
  | true =>
    have h := hasT_mem hr
    clear hr
    simp only [asgL, List.mem_cons, List.not_mem_nil, or_false] at h
    rcases h with rfl | rfl | rfl | rfl | rfl
    all_goals (
      go_enter Tryz.func99, Tryz.ntmps99
      go_wp2
      go_ret
      exact ⟨rfl, rfl⟩)
  | false =>
    have hno := hasT_no hr
    clear hr
    have q0 : (s.toList == [61]) = false := by have e := hno ⟨#[61]⟩ (by simp [asgL]); rw [ba_toList ⟨#[61]⟩] at e; exact e
    have q1 : (s.toList == [43, 61]) = false := by have e := hno ⟨#[43, 61]⟩ (by simp [asgL]); rw [ba_toList ⟨#[43, 61]⟩] at e; exact e
    have q2 : (s.toList == [45, 61]) = false := by have e := hno ⟨#[45, 61]⟩ (by simp [asgL]); rw [ba_toList ⟨#[45, 61]⟩] at e; exact e
    have q3 : (s.toList == [42, 61]) = false := by have e := hno ⟨#[42, 61]⟩ (by simp [asgL]); rw [ba_toList ⟨#[42, 61]⟩] at e; exact e
    have q4 : (s.toList == [37, 61]) = false := by have e := hno ⟨#[37, 61]⟩ (by simp [asgL]); rw [ba_toList ⟨#[37, 61]⟩] at e; exact e
    clear hno
    go_enter Tryz.func99, Tryz.ntmps99
    go_wp2
    go_ret
    exact ⟨rfl, rfl⟩

/-- The reserved words. -/
def wordL : List ByteArray := [⟨#[98, 114, 101, 97, 107]⟩, ⟨#[99, 97, 116, 99, 104]⟩, ⟨#[99, 108, 97, 115, 115]⟩, ⟨#[99, 111, 110, 115, 116]⟩, ⟨#[99, 111, 110, 115, 116, 114, 117, 99, 116, 111, 114]⟩, ⟨#[99, 111, 110, 116, 105, 110, 117, 101]⟩, ⟨#[101, 108, 115, 101]⟩, ⟨#[101, 110, 117, 109]⟩, ⟨#[101, 120, 112, 111, 114, 116]⟩, ⟨#[101, 120, 116, 101, 110, 100, 115]⟩, ⟨#[102, 97, 108, 115, 101]⟩, ⟨#[102, 105, 110, 97, 108, 108, 121]⟩, ⟨#[102, 111, 114]⟩, ⟨#[102, 117, 110, 99, 116, 105, 111, 110]⟩, ⟨#[105, 102]⟩, ⟨#[105, 109, 112, 108, 101, 109, 101, 110, 116, 115]⟩, ⟨#[105, 110]⟩, ⟨#[105, 110, 116, 101, 114, 102, 97, 99, 101]⟩, ⟨#[108, 101, 116]⟩, ⟨#[110, 97, 109, 101, 115, 112, 97, 99, 101]⟩, ⟨#[110, 101, 119]⟩, ⟨#[110, 117, 108, 108]⟩, ⟨#[111, 102]⟩, ⟨#[112, 117, 98, 108, 105, 99]⟩, ⟨#[114, 101, 97, 100, 111, 110, 108, 121]⟩, ⟨#[114, 101, 116, 117, 114, 110]⟩, ⟨#[115, 117, 112, 101, 114]⟩, ⟨#[116, 104, 105, 115]⟩, ⟨#[116, 104, 114, 111, 119]⟩, ⟨#[116, 114, 117, 101]⟩, ⟨#[116, 114, 121]⟩, ⟨#[116, 121, 112, 101]⟩, ⟨#[116, 121, 112, 101, 111, 102]⟩, ⟨#[117, 110, 100, 101, 102, 105, 110, 101, 100]⟩, ⟨#[119, 104, 105, 108, 101]⟩, ⟨#[97, 115]⟩]
set_option maxRecDepth 100000 in
set_option maxHeartbeats 4000000 in
theorem res_any (s : ByteArray) (W : World) : Calls Tryz.prog 89 #[.string s] W fun x W' => x = .returned (.bool (hasT wordL s)) ∧ W' = W := by
  cases hr : hasT wordL s with
  | true =>
    have h := hasT_mem hr
    clear hr
    simp only [wordL, List.mem_cons, List.not_mem_nil, or_false] at h
    rcases h with rfl | rfl | rfl | rfl | rfl | rfl | rfl | rfl | rfl | rfl | rfl | rfl | rfl | rfl | rfl | rfl | rfl | rfl | rfl | rfl | rfl | rfl | rfl | rfl | rfl | rfl | rfl | rfl | rfl | rfl | rfl | rfl | rfl | rfl | rfl | rfl
    all_goals (
      go_enter Tryz.func89, Tryz.ntmps89
      go_wp2
      go_ret
      exact ⟨rfl, rfl⟩)
  | false =>
    have hno := hasT_no hr
    clear hr
    have q0 : (s.toList == [98, 114, 101, 97, 107]) = false := by have e := hno ⟨#[98, 114, 101, 97, 107]⟩ (by simp [wordL]); rw [ba_toList ⟨#[98, 114, 101, 97, 107]⟩] at e; exact e
    have q1 : (s.toList == [99, 97, 116, 99, 104]) = false := by have e := hno ⟨#[99, 97, 116, 99, 104]⟩ (by simp [wordL]); rw [ba_toList ⟨#[99, 97, 116, 99, 104]⟩] at e; exact e
    have q2 : (s.toList == [99, 108, 97, 115, 115]) = false := by have e := hno ⟨#[99, 108, 97, 115, 115]⟩ (by simp [wordL]); rw [ba_toList ⟨#[99, 108, 97, 115, 115]⟩] at e; exact e
    have q3 : (s.toList == [99, 111, 110, 115, 116]) = false := by have e := hno ⟨#[99, 111, 110, 115, 116]⟩ (by simp [wordL]); rw [ba_toList ⟨#[99, 111, 110, 115, 116]⟩] at e; exact e
    have q4 : (s.toList == [99, 111, 110, 115, 116, 114, 117, 99, 116, 111, 114]) = false := by have e := hno ⟨#[99, 111, 110, 115, 116, 114, 117, 99, 116, 111, 114]⟩ (by simp [wordL]); rw [ba_toList ⟨#[99, 111, 110, 115, 116, 114, 117, 99, 116, 111, 114]⟩] at e; exact e
    have q5 : (s.toList == [99, 111, 110, 116, 105, 110, 117, 101]) = false := by have e := hno ⟨#[99, 111, 110, 116, 105, 110, 117, 101]⟩ (by simp [wordL]); rw [ba_toList ⟨#[99, 111, 110, 116, 105, 110, 117, 101]⟩] at e; exact e
    have q6 : (s.toList == [101, 108, 115, 101]) = false := by have e := hno ⟨#[101, 108, 115, 101]⟩ (by simp [wordL]); rw [ba_toList ⟨#[101, 108, 115, 101]⟩] at e; exact e
    have q7 : (s.toList == [101, 110, 117, 109]) = false := by have e := hno ⟨#[101, 110, 117, 109]⟩ (by simp [wordL]); rw [ba_toList ⟨#[101, 110, 117, 109]⟩] at e; exact e
    have q8 : (s.toList == [101, 120, 112, 111, 114, 116]) = false := by have e := hno ⟨#[101, 120, 112, 111, 114, 116]⟩ (by simp [wordL]); rw [ba_toList ⟨#[101, 120, 112, 111, 114, 116]⟩] at e; exact e
    have q9 : (s.toList == [101, 120, 116, 101, 110, 100, 115]) = false := by have e := hno ⟨#[101, 120, 116, 101, 110, 100, 115]⟩ (by simp [wordL]); rw [ba_toList ⟨#[101, 120, 116, 101, 110, 100, 115]⟩] at e; exact e
    have q10 : (s.toList == [102, 97, 108, 115, 101]) = false := by have e := hno ⟨#[102, 97, 108, 115, 101]⟩ (by simp [wordL]); rw [ba_toList ⟨#[102, 97, 108, 115, 101]⟩] at e; exact e
    have q11 : (s.toList == [102, 105, 110, 97, 108, 108, 121]) = false := by have e := hno ⟨#[102, 105, 110, 97, 108, 108, 121]⟩ (by simp [wordL]); rw [ba_toList ⟨#[102, 105, 110, 97, 108, 108, 121]⟩] at e; exact e
    have q12 : (s.toList == [102, 111, 114]) = false := by have e := hno ⟨#[102, 111, 114]⟩ (by simp [wordL]); rw [ba_toList ⟨#[102, 111, 114]⟩] at e; exact e
    have q13 : (s.toList == [102, 117, 110, 99, 116, 105, 111, 110]) = false := by have e := hno ⟨#[102, 117, 110, 99, 116, 105, 111, 110]⟩ (by simp [wordL]); rw [ba_toList ⟨#[102, 117, 110, 99, 116, 105, 111, 110]⟩] at e; exact e
    have q14 : (s.toList == [105, 102]) = false := by have e := hno ⟨#[105, 102]⟩ (by simp [wordL]); rw [ba_toList ⟨#[105, 102]⟩] at e; exact e
    have q15 : (s.toList == [105, 109, 112, 108, 101, 109, 101, 110, 116, 115]) = false := by have e := hno ⟨#[105, 109, 112, 108, 101, 109, 101, 110, 116, 115]⟩ (by simp [wordL]); rw [ba_toList ⟨#[105, 109, 112, 108, 101, 109, 101, 110, 116, 115]⟩] at e; exact e
    have q16 : (s.toList == [105, 110]) = false := by have e := hno ⟨#[105, 110]⟩ (by simp [wordL]); rw [ba_toList ⟨#[105, 110]⟩] at e; exact e
    have q17 : (s.toList == [105, 110, 116, 101, 114, 102, 97, 99, 101]) = false := by have e := hno ⟨#[105, 110, 116, 101, 114, 102, 97, 99, 101]⟩ (by simp [wordL]); rw [ba_toList ⟨#[105, 110, 116, 101, 114, 102, 97, 99, 101]⟩] at e; exact e
    have q18 : (s.toList == [108, 101, 116]) = false := by have e := hno ⟨#[108, 101, 116]⟩ (by simp [wordL]); rw [ba_toList ⟨#[108, 101, 116]⟩] at e; exact e
    have q19 : (s.toList == [110, 97, 109, 101, 115, 112, 97, 99, 101]) = false := by have e := hno ⟨#[110, 97, 109, 101, 115, 112, 97, 99, 101]⟩ (by simp [wordL]); rw [ba_toList ⟨#[110, 97, 109, 101, 115, 112, 97, 99, 101]⟩] at e; exact e
    have q20 : (s.toList == [110, 101, 119]) = false := by have e := hno ⟨#[110, 101, 119]⟩ (by simp [wordL]); rw [ba_toList ⟨#[110, 101, 119]⟩] at e; exact e
    have q21 : (s.toList == [110, 117, 108, 108]) = false := by have e := hno ⟨#[110, 117, 108, 108]⟩ (by simp [wordL]); rw [ba_toList ⟨#[110, 117, 108, 108]⟩] at e; exact e
    have q22 : (s.toList == [111, 102]) = false := by have e := hno ⟨#[111, 102]⟩ (by simp [wordL]); rw [ba_toList ⟨#[111, 102]⟩] at e; exact e
    have q23 : (s.toList == [112, 117, 98, 108, 105, 99]) = false := by have e := hno ⟨#[112, 117, 98, 108, 105, 99]⟩ (by simp [wordL]); rw [ba_toList ⟨#[112, 117, 98, 108, 105, 99]⟩] at e; exact e
    have q24 : (s.toList == [114, 101, 97, 100, 111, 110, 108, 121]) = false := by have e := hno ⟨#[114, 101, 97, 100, 111, 110, 108, 121]⟩ (by simp [wordL]); rw [ba_toList ⟨#[114, 101, 97, 100, 111, 110, 108, 121]⟩] at e; exact e
    have q25 : (s.toList == [114, 101, 116, 117, 114, 110]) = false := by have e := hno ⟨#[114, 101, 116, 117, 114, 110]⟩ (by simp [wordL]); rw [ba_toList ⟨#[114, 101, 116, 117, 114, 110]⟩] at e; exact e
    have q26 : (s.toList == [115, 117, 112, 101, 114]) = false := by have e := hno ⟨#[115, 117, 112, 101, 114]⟩ (by simp [wordL]); rw [ba_toList ⟨#[115, 117, 112, 101, 114]⟩] at e; exact e
    have q27 : (s.toList == [116, 104, 105, 115]) = false := by have e := hno ⟨#[116, 104, 105, 115]⟩ (by simp [wordL]); rw [ba_toList ⟨#[116, 104, 105, 115]⟩] at e; exact e
    have q28 : (s.toList == [116, 104, 114, 111, 119]) = false := by have e := hno ⟨#[116, 104, 114, 111, 119]⟩ (by simp [wordL]); rw [ba_toList ⟨#[116, 104, 114, 111, 119]⟩] at e; exact e
    have q29 : (s.toList == [116, 114, 117, 101]) = false := by have e := hno ⟨#[116, 114, 117, 101]⟩ (by simp [wordL]); rw [ba_toList ⟨#[116, 114, 117, 101]⟩] at e; exact e
    have q30 : (s.toList == [116, 114, 121]) = false := by have e := hno ⟨#[116, 114, 121]⟩ (by simp [wordL]); rw [ba_toList ⟨#[116, 114, 121]⟩] at e; exact e
    have q31 : (s.toList == [116, 121, 112, 101]) = false := by have e := hno ⟨#[116, 121, 112, 101]⟩ (by simp [wordL]); rw [ba_toList ⟨#[116, 121, 112, 101]⟩] at e; exact e
    have q32 : (s.toList == [116, 121, 112, 101, 111, 102]) = false := by have e := hno ⟨#[116, 121, 112, 101, 111, 102]⟩ (by simp [wordL]); rw [ba_toList ⟨#[116, 121, 112, 101, 111, 102]⟩] at e; exact e
    have q33 : (s.toList == [117, 110, 100, 101, 102, 105, 110, 101, 100]) = false := by have e := hno ⟨#[117, 110, 100, 101, 102, 105, 110, 101, 100]⟩ (by simp [wordL]); rw [ba_toList ⟨#[117, 110, 100, 101, 102, 105, 110, 101, 100]⟩] at e; exact e
    have q34 : (s.toList == [119, 104, 105, 108, 101]) = false := by have e := hno ⟨#[119, 104, 105, 108, 101]⟩ (by simp [wordL]); rw [ba_toList ⟨#[119, 104, 105, 108, 101]⟩] at e; exact e
    have q35 : (s.toList == [97, 115]) = false := by have e := hno ⟨#[97, 115]⟩ (by simp [wordL]); rw [ba_toList ⟨#[97, 115]⟩] at e; exact e
    clear hno
    go_enter Tryz.func89, Tryz.ntmps89
    go_wp2
    go_ret
    exact ⟨rfl, rfl⟩

end Go.Proofs.YtnnpkomedpjlcaaGreatDoor

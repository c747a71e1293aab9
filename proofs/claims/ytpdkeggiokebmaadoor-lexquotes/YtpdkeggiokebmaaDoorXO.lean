/- lex.isReserved, in whatever memory. -/
import Derived.Test.YtpdkeggiokebmaaDoorXB
import Derived.Test.YtpdkeggiokebmaaDoorX5
namespace Go.Proofs.YtpdkeggiokebmaaDoor
set_option linter.unusedSimpArgs false
set_option linter.unusedVariables false
open Go.RowKit Go.Shelf

/-- The reserved words. -/
def wordL : List ByteArray := [⟨#[98, 114, 101, 97, 107]⟩, ⟨#[99, 97, 116, 99, 104]⟩, ⟨#[99, 108, 97, 115, 115]⟩, ⟨#[99, 111, 110, 115, 116]⟩, ⟨#[99, 111, 110, 115, 116, 114, 117, 99, 116, 111, 114]⟩, ⟨#[99, 111, 110, 116, 105, 110, 117, 101]⟩, ⟨#[101, 108, 115, 101]⟩, ⟨#[101, 110, 117, 109]⟩, ⟨#[101, 120, 112, 111, 114, 116]⟩, ⟨#[101, 120, 116, 101, 110, 100, 115]⟩, ⟨#[102, 97, 108, 115, 101]⟩, ⟨#[102, 105, 110, 97, 108, 108, 121]⟩, ⟨#[102, 111, 114]⟩, ⟨#[102, 117, 110, 99, 116, 105, 111, 110]⟩, ⟨#[105, 102]⟩, ⟨#[105, 109, 112, 108, 101, 109, 101, 110, 116, 115]⟩, ⟨#[105, 110]⟩, ⟨#[105, 110, 116, 101, 114, 102, 97, 99, 101]⟩, ⟨#[108, 101, 116]⟩, ⟨#[110, 97, 109, 101, 115, 112, 97, 99, 101]⟩, ⟨#[110, 101, 119]⟩, ⟨#[110, 117, 108, 108]⟩, ⟨#[111, 102]⟩, ⟨#[112, 117, 98, 108, 105, 99]⟩, ⟨#[114, 101, 97, 100, 111, 110, 108, 121]⟩, ⟨#[114, 101, 116, 117, 114, 110]⟩, ⟨#[115, 117, 112, 101, 114]⟩, ⟨#[116, 104, 105, 115]⟩, ⟨#[116, 104, 114, 111, 119]⟩, ⟨#[116, 114, 117, 101]⟩, ⟨#[116, 114, 121]⟩, ⟨#[116, 121, 112, 101]⟩, ⟨#[116, 121, 112, 101, 111, 102]⟩, ⟨#[117, 110, 100, 101, 102, 105, 110, 101, 100]⟩, ⟨#[119, 104, 105, 108, 101]⟩, ⟨#[97, 115]⟩]
set_option maxRecDepth 100000 in
set_option maxHeartbeats 4000000 in
theorem res_any (s : ByteArray) (W : World) : Calls Tryd.prog 65 #[.string s] W fun x W' => x = .returned (.bool (hasT wordL s)) ∧ W' = W := by
  cases hr : hasT wordL s with
  | true =>
    obtain ⟨t, h, e⟩ := List.any_eq_true.1 hr
    obtain rfl : s = t := by
      simp only [ba_toList, beq_iff_eq] at e
      exact ByteArray.ext (Array.toList_inj.1 e)
    clear hr e
    simp only [wordL, List.mem_cons, List.not_mem_nil, or_false] at h
    rcases h with rfl | rfl | rfl | rfl | rfl | rfl | rfl | rfl | rfl | rfl | rfl | rfl | rfl | rfl | rfl | rfl | rfl | rfl | rfl | rfl | rfl | rfl | rfl | rfl | rfl | rfl | rfl | rfl | rfl | rfl | rfl | rfl | rfl | rfl | rfl | rfl
    all_goals (
      go_enter Tryd.func65, Tryd.ntmps65
      go_wp2
      go_ret
      exact ⟨rfl, rfl⟩)
  | false =>
    have hno : ∀ t ∈ wordL, (s.toList == t.toList) = false := fun t ht => by simpa using List.any_eq_false.1 hr t ht
    clear hr
    have q0 : (s.toList == [98, 114, 101, 97, 107]) = false := by have e := hno ⟨#[98, 114, 101, 97, 107]⟩ (by simp [wordL]); rw [ba_toList ⟨#[98, 114, 101, 97, 107]⟩] at e; exact e
    have q1 : (s.toList == [99, 97, 116, 99, 104]) = false := by have e := hno ⟨#[99, 97, 116, 99, 104]⟩ (by simp [wordL]); rw [ba_toList ⟨#[99, 97, 116, 99, 104]⟩] at e; exact e
    have q2 : (s.toList == [99, 108, 97, 115, 115]) = false := by have e := hno ⟨#[99, 108, 97, 115, 115]⟩ (by simp [wordL]); rw [ba_toList ⟨#[99, 108, 97, 115, 115]⟩] at e; exact e
    have q3 : (s.toList == [99, 111, 110, 115, 116]) = false := by have e := hno ⟨#[99, 111, 110, 115, 116]⟩ (by simp [wordL]); rw [ba_toList ⟨#[99, 111, 110, 115, 116]⟩] at e; exact e
    have q4 : (s.toList == [99, 111, 110, 115, 116, 114, 117, 99, 116, 111, 114]) = false := by have e := hno ⟨#[99, 111, 110, 115, 116, 114, 117, 99, 116, 111, 114]⟩ (by simp [wordL]); rw [ba_toList ⟨#[99, 111, 110, 115, 116, 114, 117, 99, 116, 111, 114]⟩] at e; exact e
    have q5 : (s.toList == [99, 111, 110, 116, 105, 110, 117, 101]) = false := by have e := hno ⟨#[99, 111, 110, 116, 105, 110, 117, 101]⟩ (by simp [wordL]); rw [ba_toList ⟨#[99, 111, 110, 116, 105, 110, 117, 101]⟩] at e; exact e
    have q6 : (s.toList == [101, 108, 115, 101]) = false := by have e := hno ⟨#[101, 108, 115, 101]⟩ (by simp [wordL]); rw [ba_toList ⟨#[101, 108, 115, 101]⟩] at e; exact e
    have q7 : (s.toList == [101, 110, 117, 109]) = false := by have e := hno ⟨#[101, 110, 117, 109]⟩ (by simp [wordL]); rw [ba_toList ⟨#[101, 110, 117, 109]⟩] at e; exact e
    have q8 : (s.toList == [101, 120, 112, 111, 114, 116]) = false := by have e := hno ⟨#[101, 120, 112, 111, 114, 116]⟩ (by simp [wordL]); rw [ba_toList ⟨#[101, 120, 112, 111, 114, 116]⟩] at e; exact e
    have q9 : (s.toList == [101, 120, 116, 101, 110, 100, 115]) = false := by have e := hno ⟨#[101, 120, 116, 101, 110, 100, 115]⟩ (by simp [wordL]); rw [ba_toList ⟨#[101, 120, 116, 101, 110, 100, 115]⟩] at e; exact e
    have q10 : (s.toList == [102, 97, 108, 115, 101]) = false := by have e := hno ⟨#[102, 97, 108, 115, 101]⟩ (by simp [wordL]); rw [ba_toList ⟨#[102, 97, 108, 115, 101]⟩] at e; exact e
    have q11 : (s.toList == [102, 105, 110, 97, 108, 108, 121]) = false := by have e := hno ⟨#[102, 105, 110, 97, 108, 108, 121]⟩ (by simp [wordL]); rw [ba_toList ⟨#[102, 105, 110, 97, 108, 108, 121]⟩] at e; exact e
    have q12 : (s.toList == [102, 111, 114]) = false := by have e := hno ⟨#[102, 111, 114]⟩ (by simp [wordL]); rw [ba_toList ⟨#[102, 111, 114]⟩] at e; exact e
    have q13 : (s.toList == [102, 117, 110, 99, 116, 105, 111, 110]) = false := by have e := hno ⟨#[102, 117, 110, 99, 116, 105, 111, 110]⟩ (by simp [wordL]); rw [ba_toList ⟨#[102, 117, 110, 99, 116, 105, 111, 110]⟩] at e; exact e
    have q14 : (s.toList == [105, 102]) = false := by have e := hno ⟨#[105, 102]⟩ (by simp [wordL]); rw [ba_toList ⟨#[105, 102]⟩] at e; exact e
    have q15 : (s.toList == [105, 109, 112, 108, 101, 109, 101, 110, 116, 115]) = false := by have e := hno ⟨#[105, 109, 112, 108, 101, 109, 101, 110, 116, 115]⟩ (by simp [wordL]); rw [ba_toList ⟨#[105, 109, 112, 108, 101, 109, 101, 110, 116, 115]⟩] at e; exact e
    have q16 : (s.toList == [105, 110]) = false := by have e := hno ⟨#[105, 110]⟩ (by simp [wordL]); rw [ba_toList ⟨#[105, 110]⟩] at e; exact e
    have q17 : (s.toList == [105, 110, 116, 101, 114, 102, 97, 99, 101]) = false := by have e := hno ⟨#[105, 110, 116, 101, 114, 102, 97, 99, 101]⟩ (by simp [wordL]); rw [ba_toList ⟨#[105, 110, 116, 101, 114, 102, 97, 99, 101]⟩] at e; exact e
    have q18 : (s.toList == [108, 101, 116]) = false := by have e := hno ⟨#[108, 101, 116]⟩ (by simp [wordL]); rw [ba_toList ⟨#[108, 101, 116]⟩] at e; exact e
    have q19 : (s.toList == [110, 97, 109, 101, 115, 112, 97, 99, 101]) = false := by have e := hno ⟨#[110, 97, 109, 101, 115, 112, 97, 99, 101]⟩ (by simp [wordL]); rw [ba_toList ⟨#[110, 97, 109, 101, 115, 112, 97, 99, 101]⟩] at e; exact e
    have q20 : (s.toList == [110, 101, 119]) = false := by have e := hno ⟨#[110, 101, 119]⟩ (by simp [wordL]); rw [ba_toList ⟨#[110, 101, 119]⟩] at e; exact e
    have q21 : (s.toList == [110, 117, 108, 108]) = false := by have e := hno ⟨#[110, 117, 108, 108]⟩ (by simp [wordL]); rw [ba_toList ⟨#[110, 117, 108, 108]⟩] at e; exact e
    have q22 : (s.toList == [111, 102]) = false := by have e := hno ⟨#[111, 102]⟩ (by simp [wordL]); rw [ba_toList ⟨#[111, 102]⟩] at e; exact e
    have q23 : (s.toList == [112, 117, 98, 108, 105, 99]) = false := by have e := hno ⟨#[112, 117, 98, 108, 105, 99]⟩ (by simp [wordL]); rw [ba_toList ⟨#[112, 117, 98, 108, 105, 99]⟩] at e; exact e
    have q24 : (s.toList == [114, 101, 97, 100, 111, 110, 108, 121]) = false := by have e := hno ⟨#[114, 101, 97, 100, 111, 110, 108, 121]⟩ (by simp [wordL]); rw [ba_toList ⟨#[114, 101, 97, 100, 111, 110, 108, 121]⟩] at e; exact e
    have q25 : (s.toList == [114, 101, 116, 117, 114, 110]) = false := by have e := hno ⟨#[114, 101, 116, 117, 114, 110]⟩ (by simp [wordL]); rw [ba_toList ⟨#[114, 101, 116, 117, 114, 110]⟩] at e; exact e
    have q26 : (s.toList == [115, 117, 112, 101, 114]) = false := by have e := hno ⟨#[115, 117, 112, 101, 114]⟩ (by simp [wordL]); rw [ba_toList ⟨#[115, 117, 112, 101, 114]⟩] at e; exact e
    have q27 : (s.toList == [116, 104, 105, 115]) = false := by have e := hno ⟨#[116, 104, 105, 115]⟩ (by simp [wordL]); rw [ba_toList ⟨#[116, 104, 105, 115]⟩] at e; exact e
    have q28 : (s.toList == [116, 104, 114, 111, 119]) = false := by have e := hno ⟨#[116, 104, 114, 111, 119]⟩ (by simp [wordL]); rw [ba_toList ⟨#[116, 104, 114, 111, 119]⟩] at e; exact e
    have q29 : (s.toList == [116, 114, 117, 101]) = false := by have e := hno ⟨#[116, 114, 117, 101]⟩ (by simp [wordL]); rw [ba_toList ⟨#[116, 114, 117, 101]⟩] at e; exact e
    have q30 : (s.toList == [116, 114, 121]) = false := by have e := hno ⟨#[116, 114, 121]⟩ (by simp [wordL]); rw [ba_toList ⟨#[116, 114, 121]⟩] at e; exact e
    have q31 : (s.toList == [116, 121, 112, 101]) = false := by have e := hno ⟨#[116, 121, 112, 101]⟩ (by simp [wordL]); rw [ba_toList ⟨#[116, 121, 112, 101]⟩] at e; exact e
    have q32 : (s.toList == [116, 121, 112, 101, 111, 102]) = false := by have e := hno ⟨#[116, 121, 112, 101, 111, 102]⟩ (by simp [wordL]); rw [ba_toList ⟨#[116, 121, 112, 101, 111, 102]⟩] at e; exact e
    have q33 : (s.toList == [117, 110, 100, 101, 102, 105, 110, 101, 100]) = false := by have e := hno ⟨#[117, 110, 100, 101, 102, 105, 110, 101, 100]⟩ (by simp [wordL]); rw [ba_toList ⟨#[117, 110, 100, 101, 102, 105, 110, 101, 100]⟩] at e; exact e
    have q34 : (s.toList == [119, 104, 105, 108, 101]) = false := by have e := hno ⟨#[119, 104, 105, 108, 101]⟩ (by simp [wordL]); rw [ba_toList ⟨#[119, 104, 105, 108, 101]⟩] at e; exact e
    have q35 : (s.toList == [97, 115]) = false := by have e := hno ⟨#[97, 115]⟩ (by simp [wordL]); rw [ba_toList ⟨#[97, 115]⟩] at e; exact e
    clear hno
    go_enter Tryd.func65, Tryd.ntmps65
    go_wp2
    go_ret
    exact ⟨rfl, rfl⟩
end Go.Proofs.YtpdkeggiokebmaaDoor

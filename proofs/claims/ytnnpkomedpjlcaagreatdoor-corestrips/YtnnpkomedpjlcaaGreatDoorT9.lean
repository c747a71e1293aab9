/- Names. -/
import Derived.LoopN
import Derived.Test.YtnnpkomedpjlcaaGreatDoorT8
namespace Go.Proofs.YtnnpkomedpjlcaaGreatDoor
set_option linter.unusedSimpArgs false
set_option linter.unusedVariables false
open Go.RowKit

/-- Letters, and digits behind the first. -/
def chN (s : ByteArray) : Nat → Bool
  | 0 => true
  | i + 1 => chN s i && (isL (gS s i) || (!(i == 0) && isD (gS s i)))
def nameB (s : ByteArray) : Bool := chN s s.size && !(s.size == 0) && !hasT wordL s
theorem chN_le {s : ByteArray} {i : Nat} (h : chN s i = false) : ∀ {j}, i ≤ j → chN s j = false
  | 0, hj => by obtain rfl : i = 0 := by omega
                exact h
  | j + 1, hj => by
    by_cases e : i = j + 1
    · subst e; exact h
    · show (chN s j && _) = false
      rw [chN_le h (by omega)]; rfl
theorem chN_false {s : ByteArray} {i n : Nat} (hi : i < n) (h : (isL (gS s i) || (!(i == 0) && isD (gS s i))) = false) : chN s n = false :=
  chN_le (i := i + 1) (by show (chN s i && _) = false; rw [h]; simp) hi

set_option maxRecDepth 100000 in
theorem idx_str (s : ByteArray) (i : Nat) (hi : i < s.size) (W : World) : (Instr.index 9 (.string s) (.int .i64 (i : Int))).run Tryz.prog W = .ok (.int .u8 (gS s i)) W := by
  rw [run_index_string W 9 s .i64 (i : Int) Tryz.underlying9, dif_pos ⟨by omega, by omega⟩]
  have e : ((s[(i : Int).toNat]'(by simpa using hi)).toNat : Int) = gS s i := by
    have h2 : i < s.data.size := hi
    rw [gS, Array.getElem?_eq_getElem h2]
    simp
    rfl
  rw [e]

set_option maxRecDepth 100000 in
set_option maxHeartbeats 1000000 in
theorem name_any (s : ByteArray) (hs : s.size ≤ 140737488355328) (W : World) : Calls Tryz.prog 67 #[.string s] W fun e W' => e = .returned (.bool (nameB s)) ∧ W' = W := by
  go_enter Tryz.func67, Tryz.ntmps67
  go_wp2
  go_loopw [6] (fun t wr => ∃ i : Nat, i ≤ s.size ∧ t = .int .i64 (i : Int) ∧ chN s i = true ∧ wr = W) (fun t _ => s.size - (intOf t).toNat)
  case atStart => exact ⟨0, Nat.zero_le _, rfl, rfl, rfl⟩
  case round =>
    obtain ⟨i, hi, rfl, hc, hw⟩ := hrel
    subst wr
    have HC := hide hc
    clear hc
    by_cases hil : i < s.size
    · have hil' : (i : Int) < s.size := by omega
      have hidx := idx_str s i hil W
      obtain ⟨c, hcv⟩ : ∃ c, gS s i = c := ⟨_, rfl⟩
      rw [hcv] at hidx
      have HCV := hide hcv
      clear hcv
      cases hL : isL c with
      | true =>
        have HU : Hid (chN s (i + 1) = true) := by show (chN s i && (isL (gS s i) || _)) = true; rw [unhide HC, unhide HCV, hL]; rfl
        have H1 := hide hL
        clear hL
        go_wp2_with (go_at_call 87; refine (isLetter_any _ _).mono ?_; rintro e w2 ⟨he, rfl⟩; rw [unhide H1] at he; subst he)
        exact ⟨⟨i + 1, by omega, by go_num, unhide HU, trivial⟩, by simp [intOf]; omega⟩
      | false =>
        by_cases h0 : i = 0
        · have h0' : ((i : Int) == 0) = true := by simp only [beq_iff_eq]; omega
          have HF : Hid (nameB s = false) := by show (chN s s.size && _ && _) = false; rw [chN_false hil (by rw [unhide HCV, hL, h0]; rfl)]; rfl
          clear h0
          have H1 := hide hL
          clear hL
          go_wp2_with (go_at_call 87; refine (isLetter_any _ _).mono ?_; rintro e w2 ⟨he, rfl⟩; rw [unhide H1] at he; subst he)
          go_ret
          exact ⟨ret_b (unhide HF).symm, rfl⟩
        · have h0' : ((i : Int) == 0) = false := by simp only [beq_eq_false_iff_ne]; omega
          have h0'' : (i == 0) = false := by simpa using h0
          have H0 := hide h0''
          clear h0''
          cases hD : isD c with
          | true =>
            have HU : Hid (chN s (i + 1) = true) := by show (chN s i && (isL (gS s i) || (!(i == 0) && isD (gS s i)))) = true; rw [unhide HC, unhide HCV, hL, hD, unhide H0]; rfl
            have H1 := hide hL
            have H2 := hide hD
            clear hL hD h0
            go_wp2_with (first | (go_at_call 87; refine (isLetter_any _ _).mono ?_; rintro e w2 ⟨he, rfl⟩; rw [unhide H1] at he; subst he) | (go_at_call 88; refine (isDigit_any _ _).mono ?_; rintro e w3 ⟨he, rfl⟩; rw [unhide H2] at he; subst he))
            exact ⟨⟨i + 1, by omega, by go_num, unhide HU, trivial⟩, by simp [intOf]; omega⟩
          | false =>
            have HF : Hid (nameB s = false) := by show (chN s s.size && _ && _) = false; rw [chN_false hil (by rw [unhide HCV, hL, hD]; simp)]; rfl
            have H1 := hide hL
            have H2 := hide hD
            clear hL hD h0
            go_wp2_with (first | (go_at_call 87; refine (isLetter_any _ _).mono ?_; rintro e w2 ⟨he, rfl⟩; rw [unhide H1] at he; subst he) | (go_at_call 88; refine (isDigit_any _ _).mono ?_; rintro e w3 ⟨he, rfl⟩; rw [unhide H2] at he; subst he))
            go_ret
            exact ⟨ret_b (unhide HF).symm, rfl⟩
    · have hil' : ¬ (i : Int) < s.size := by omega
      have e : i = s.size := by omega
      have HC' : Hid (chN s s.size = true) := by rw [← e]; exact unhide HC
      by_cases h0 : s.size = 0
      · have e0 : s = ⟨#[]⟩ := by
          apply ByteArray.ext
          exact Array.size_eq_zero_iff.1 h0
        have HF : Hid (nameB s = false) := by show (_ && !(s.size == 0) && _) = false; rw [h0]; simp
        subst e0
        go_wp2
        go_ret
        exact ⟨ret_b (unhide HF).symm, rfl⟩
      · have hne : (s.toList == []) = false := by
          rw [ba_toList, beq_eq_false_iff_ne]
          intro e
          apply h0
          have : s.data.toList.length = 0 := by rw [e]; rfl
          exact this
        have HF : Hid (nameB s = !hasT wordL s) := by
          have h0' : (s.size == 0) = false := by simpa using h0
          show (chN s s.size && !(s.size == 0) && !hasT wordL s) = _
          rw [unhide HC', h0']; rfl
        clear h0 e
        go_wp2_with (go_at_call 89; refine (res_any _ _).mono ?_; rintro e w2 ⟨rfl, rfl⟩)
        go_ret
        exact ⟨ret_b (unhide HF).symm, rfl⟩
theorem name_ok : TextOk 67 nameB := fun W s hs => (name_any s (by omega) W).mono fun e w' ⟨h1, h2⟩ => ⟨h1, by rw [h2]; exact Below.refl _ _⟩
theorem unary_ok : TextOk 97 (hasT unL) := fun W s hs => (unary_any s W).mono fun e w' ⟨h1, h2⟩ => ⟨h1, by rw [h2]; exact Below.refl _ _⟩
theorem binary_ok : TextOk 98 (hasT binL) := fun W s hs => (binary_any s W).mono fun e w' ⟨h1, h2⟩ => ⟨h1, by rw [h2]; exact Below.refl _ _⟩
theorem assign_ok : TextOk 99 (hasT asgL) := fun W s hs => (assign_any s W).mono fun e w' ⟨h1, h2⟩ => ⟨h1, by rw [h2]; exact Below.refl _ _⟩
end Go.Proofs.YtnnpkomedpjlcaaGreatDoor

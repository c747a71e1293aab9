/- A rune's bytes, encoded again, are the bytes that were decoded. -/
import Derived.Laws.Runes
import Derived.Lib.AppendStr
import Derived.Test.YtponficlejjafabDoorB0
namespace Go.Proofs.YtponficlejjafabDoor
set_option linter.unusedSimpArgs false
set_option linter.unusedVariables false

theorem enc1 {c : Nat} (h1 : c < 128) : (Utf8.encode (c : Int)).data.toList = [UInt8.ofNat c] := by
  have hv : Utf8.valid (c : Int) = true := by rw [validRune_eq]; simp [validRune]; omega
  unfold Utf8.encode
  simp only [hv, if_true, Int.toNat_natCast]
  rw [if_pos h1]
theorem enc2 {c : Nat} (h1 : 128 ≤ c) (h2 : c < 2048) : (Utf8.encode (c : Int)).data.toList = [UInt8.ofNat (0xC0 + c / 64), UInt8.ofNat (0x80 + c % 64)] := by
  have hv : Utf8.valid (c : Int) = true := by rw [validRune_eq]; simp [validRune]; omega
  unfold Utf8.encode
  simp only [hv, if_true, Int.toNat_natCast]
  rw [if_neg (by omega), if_pos h2]
theorem enc3 {c : Nat} (h1 : 2048 ≤ c) (h2 : c < 65536) (h3 : c < 55296 ∨ 57343 < c) : (Utf8.encode (c : Int)).data.toList = [UInt8.ofNat (0xE0 + c / 4096), UInt8.ofNat (0x80 + c / 64 % 64), UInt8.ofNat (0x80 + c % 64)] := by
  have hv : Utf8.valid (c : Int) = true := by rw [validRune_eq]; simp [validRune]; omega
  unfold Utf8.encode
  simp only [hv, if_true, Int.toNat_natCast]
  rw [if_neg (by omega), if_neg (by omega), if_pos h2]
theorem enc4 {c : Nat} (h1 : 65536 ≤ c) (h2 : c ≤ 1114111) : (Utf8.encode (c : Int)).data.toList = [UInt8.ofNat (0xF0 + c / 262144), UInt8.ofNat (0x80 + c / 4096 % 64), UInt8.ofNat (0x80 + c / 64 % 64), UInt8.ofNat (0x80 + c % 64)] := by
  have hv : Utf8.valid (c : Int) = true := by rw [validRune_eq]; simp [validRune]; omega
  unfold Utf8.encode
  simp only [hv, if_true, Int.toNat_natCast]
  rw [if_neg (by omega), if_neg (by omega), if_neg (by omega)]
theorem cell_u8 {n : Nat} {x : Int} (h0 : 0 ≤ x) (h1 : x ≤ 255) (h : (n : Int) = x) : Value.int .u8 ((UInt8.ofNat n).toNat : Int) = .int .u8 x := by
  rw [UInt8.toNat_ofNat', Nat.mod_eq_of_lt (by omega), h]

/-- The cells of the rune that begins at i, encoded. -/
theorem enc_cells {g : Nat → Int} (hg : ∀ j, 0 ≤ g j ∧ g j ≤ 255) {len i : Nat} (h : good g len i = true) : Lib.strCells (Utf8.encode (acc g i (wid (g i) - 1))) = upto (fun j => Value.int .u8 (g (i + j))) (wid (g i)) := by
  simp only [good, Bool.and_eq_true, decide_eq_true_eq] at h
  obtain ⟨⟨⟨⟨h1, h2⟩, h3⟩, h4⟩, h5⟩ := h
  have hal : acc g i (wid (g i) - 1) < 55296 ∨ (57343 < acc g i (wid (g i) - 1) ∧ acc g i (wid (g i) - 1) ≤ 1114111) := by simpa [alw] using h5
  have g0 := hg i
  have g1 := hg (i + 1)
  have g2 := hg (i + 1 + 1)
  have g3 := hg (i + 1 + 2)
  by_cases a1 : g i < 128
  · have hw : wid (g i) = 1 := by simp [wid, a1]
    have hd : dig (g i) = g i := by simp [dig, a1]
    rw [hw] at hal ⊢
    show Lib.strCells (Utf8.encode (dig (g i))) = _
    rw [hd]
    obtain ⟨c, hc⟩ : ∃ c : Nat, g i = (c : Int) := ⟨(g i).toNat, by omega⟩
    rw [hc]
    unfold Lib.strCells
    rw [enc1 (by omega)]
    simp only [List.map_cons, List.map_nil]
    rw [cell_u8 (x := g i) g0.1 g0.2 hc.symm]
    simp [upto]
  by_cases a2 : g i < 192
  · exact absurd (by simp [wid, a1, a2]) h1
  by_cases a3 : g i < 224
  · have hw : wid (g i) = 2 := by simp [wid, a1, a2, a3]
    have hd : dig (g i) = g i - 192 := by simp [dig, a1, a2, a3]
    have hl : lst (g i) = 128 := by simp [lst, a1, a2, a3]
    rw [hw] at h3 h4 hal ⊢
    rw [hl] at h4
    have c1 := conts_lt h3 0 (by omega)
    have ha : acc g i (2 - 1) = (g i - 192) * 64 + (g (i + 1) - 128) := by simp [acc, hd]
    rw [ha] at h4 hal ⊢
    obtain ⟨c, hc⟩ : ∃ c : Nat, (g i - 192) * 64 + (g (i + 1) - 128) = (c : Int) := ⟨((g i - 192) * 64 + (g (i + 1) - 128)).toNat, by omega⟩
    rw [hc]
    unfold Lib.strCells
    simp only [Nat.add_zero] at c1
    rw [enc2 (by omega) (by omega)]
    simp only [List.map_cons, List.map_nil]
    rw [cell_u8 (x := g i) g0.1 g0.2 (by omega), cell_u8 (x := g (i + 1)) g1.1 g1.2 (by omega)]
    simp [upto, List.range_succ]
  by_cases a4 : g i < 240
  · have hw : wid (g i) = 3 := by simp [wid, a1, a2, a3, a4]
    have hd : dig (g i) = g i - 224 := by simp [dig, a1, a2, a3, a4]
    have hl : lst (g i) = 2048 := by simp [lst, a1, a2, a3, a4]
    rw [hw] at h3 h4 hal ⊢
    rw [hl] at h4
    have c1 := conts_lt h3 0 (by omega)
    have c2 := conts_lt h3 1 (by omega)
    have ha : acc g i (3 - 1) = ((g i - 224) * 64 + (g (i + 1) - 128)) * 64 + (g (i + 1 + 1) - 128) := by simp [acc, hd]
    rw [ha] at h4 hal ⊢
    obtain ⟨c, hc⟩ : ∃ c : Nat, ((g i - 224) * 64 + (g (i + 1) - 128)) * 64 + (g (i + 1 + 1) - 128) = (c : Int) := ⟨(((g i - 224) * 64 + (g (i + 1) - 128)) * 64 + (g (i + 1 + 1) - 128)).toNat, by omega⟩
    rw [hc]
    rw [hc] at h4 hal
    unfold Lib.strCells
    simp only [Nat.add_zero] at c1
    rw [enc3 (by omega) (by omega) (by omega)]
    simp only [List.map_cons, List.map_nil]
    rw [cell_u8 (x := g i) g0.1 g0.2 (by omega), cell_u8 (x := g (i + 1)) g1.1 g1.2 (by omega), cell_u8 (x := g (i + 1 + 1)) g2.1 g2.2 (by omega)]
    simp [upto, List.range_succ, Nat.add_assoc]
  by_cases a5 : g i < 248
  · have hw : wid (g i) = 4 := by simp [wid, a1, a2, a3, a4, a5]
    have hd : dig (g i) = g i - 240 := by simp [dig, a1, a2, a3, a4, a5]
    have hl : lst (g i) = 65536 := by simp [lst, a1, a2, a3, a4, a5]
    rw [hw] at h3 h4 hal ⊢
    rw [hl] at h4
    have c1 := conts_lt h3 0 (by omega)
    have c2 := conts_lt h3 1 (by omega)
    have c3 := conts_lt h3 2 (by omega)
    have ha : acc g i (4 - 1) = (((g i - 240) * 64 + (g (i + 1) - 128)) * 64 + (g (i + 1 + 1) - 128)) * 64 + (g (i + 1 + 2) - 128) := by simp [acc, hd]
    rw [ha] at h4 hal ⊢
    obtain ⟨c, hc⟩ : ∃ c : Nat, (((g i - 240) * 64 + (g (i + 1) - 128)) * 64 + (g (i + 1 + 1) - 128)) * 64 + (g (i + 1 + 2) - 128) = (c : Int) := ⟨((((g i - 240) * 64 + (g (i + 1) - 128)) * 64 + (g (i + 1 + 1) - 128)) * 64 + (g (i + 1 + 2) - 128)).toNat, by omega⟩
    rw [hc]
    rw [hc] at h4 hal
    unfold Lib.strCells
    simp only [Nat.add_zero] at c1
    rw [enc4 (by omega) (by omega)]
    simp only [List.map_cons, List.map_nil]
    rw [cell_u8 (x := g i) g0.1 g0.2 (by omega), cell_u8 (x := g (i + 1)) g1.1 g1.2 (by omega), cell_u8 (x := g (i + 1 + 1)) g2.1 g2.2 (by omega), cell_u8 (x := g (i + 1 + 2)) g3.1 g3.2 (by omega)]
    simp [upto, List.range_succ, Nat.add_assoc]
  · exact absurd (by simp [wid, a1, a2, a3, a4, a5]) h1
end Go.Proofs.YtponficlejjafabDoor

/- Tokens of one character, whatever stands behind. -/
import Derived.Test.YtofgphapjjofnaaGreatDoorNT
import Derived.Test.YtofgphapjjofnaaGreatDoorNV
namespace Go.Proofs.YtofgphapjjofnaaGreatDoor
set_option linter.unusedSimpArgs false
set_option linter.unusedVariables false

theorem hasT_head {l : List ByteArray} {v : ByteArray} {c : UInt8} (hv : v.data.toList.head? = some c) (h : (l.all fun s => s.data.toList.head? != some c) = true) : hasT l v = false := by
  unfold hasT
  rw [List.any_eq_false]
  intro s hs e
  have h1 := List.all_eq_true.1 h s hs
  simp only [ba_toList, beq_iff_eq] at e
  rw [← e, hv] at h1
  simp at h1
theorem upto_head {f : Nat → Int} {n : Nat} : (strOfNums (upto f (n + 1))).data.toList.head? = some (UInt8.ofNat (f 0).toNat) := by
  simp [strOfNums, Lib.bytesOf, upto, List.range_succ_eq_map]
/-- A sign of one character, with which no longer one begins. -/
def oneB (c : Int) : Bool := (sgn2.all fun s => s.data.toList.head? != some (UInt8.ofNat c.toNat)) && (sgn3.all fun s => s.data.toList.head? != some (UInt8.ofNat c.toNat)) && (sgn1.any fun s => [UInt8.ofNat c.toNat] == s.data.toList) && !isL c && !isD c && decide (c ≠ 34 ∧ c ≠ 39 ∧ c ≠ 96 ∧ c ≠ 47) && !blk c
theorem sgN_one {g : Nat → Int} {len i : Nat} {c : Int} (hc : oneB c = true) (hg : g i = c) (hi : i < len) : sgN g len i = 1 := by
  simp only [oneB, Bool.and_eq_true, Bool.not_eq_true', decide_eq_true_eq] at hc
  obtain ⟨⟨⟨⟨⟨⟨h2, h3⟩, h1⟩, _⟩, _⟩, _⟩, _⟩ := hc
  have k1 : hasT (sgnL 1) (strOfNums (upto (fun j => g (i + j)) 1)) = true := by
    have e : (strOfNums (upto (fun j => g (i + j)) 1)).data.toList = [UInt8.ofNat c.toNat] := by simp [strOfNums, Lib.bytesOf, upto, hg]
    simp only [sgnL, if_pos, hasT, ba_toList, e]
    exact h1
  have k2 : hasT (sgnL 2) (strOfNums (upto (fun j => g (i + j)) 2)) = false := hasT_head (upto_head.trans (by rw [Nat.add_zero, hg])) h2
  have k3 : hasT (sgnL 3) (strOfNums (upto (fun j => g (i + j)) 3)) = false := hasT_head (upto_head.trans (by rw [Nat.add_zero, hg])) h3
  unfold sgN
  obtain h | h | h : min 3 (len - i) = 1 ∨ min 3 (len - i) = 2 ∨ min 3 (len - i) = 3 := by omega
  · rw [h]; simp [lsgN, k1]
  · rw [h]; simp [lsgN, k1, k2]
  · rw [h]; simp [lsgN, k1, k2, k3]
def bsOf (c : Int) (bs : List Bool) : List Bool := if c = 123 then bs ++ [false] else if c = 125 then bs.dropLast else bs
theorem sub_one (g : Nat → Int) (i : Nat) : sub g i (i + 1) = [g i] := by rw [sub_upto]; simp [upto]
theorem tk_one {g : Nat → Int} {len i : Nat} {c : Int} {bs : List Bool} (hc : oneB c = true) (hg : g i = c) (hi : i < len) (hb : c = 125 → lastB bs = false) : tokP g len i bs = some (9, [c], i + 1, bsOf c bs) := by
  have hs := sgN_one hc hg hi
  simp only [oneB, Bool.and_eq_true, Bool.not_eq_true', decide_eq_true_eq] at hc
  obtain ⟨⟨⟨⟨_, hL⟩, hD⟩, n1, n2, n3, n4⟩, _⟩ := hc
  unfold tokP
  rw [hg, if_neg (by simp [hL]), if_neg (by simp [hD]), if_neg (by omega), if_neg n3, if_neg (fun h => by simp [hb h.1] at h)]
  unfold sigQ
  rw [hs, if_neg (by decide), sub_one, hg]
  unfold bsOf
  by_cases e1 : c = 123
  · subst e1; simp
  · by_cases e2 : c = 125
    · subst e2; simp
    · simp [e1, e2]
theorem sc_one {g : Nat → Int} {len i : Nat} {c : Int} {bs : List Bool} (hc : oneB c = true) (hg : g i = c) (hi : i < len) (hb : c = 125 → lastB bs = false) : scI g len i bs = ((9, [c], i, i + 1), 0) :: scI g len (i + 1) (bsOf c bs) := by
  refine sc_tok hi ?_ (tk_one hc hg hi hb)
  simp only [oneB, Bool.and_eq_true, Bool.not_eq_true', decide_eq_true_eq] at hc
  exact ⟨by rw [hg]; exact hc.2, fun h => hc.1.2.2.2.2 (by rw [← hg]; exact h.1), fun h => hc.1.2.2.2.2 (by rw [← hg]; exact h.1)⟩
/-- A letter alone is a name. -/
def letB (c : Int) : Bool := isL c && !(wordL.any fun s => [UInt8.ofNat c.toNat] == s.data.toList) && !blk c && decide (c ≠ 47)
theorem sc_let {g : Nat → Int} {len i : Nat} {c : Int} {bs : List Bool} (hc : letB c = true) (hg : g i = c) (hi : i < len) (hn : i + 1 < len → isLD (g (i + 1)) = false) : scI g len i bs = ((1, [c], i, i + 1), 0) :: scI g len (i + 1) bs := by
  simp only [letB, Bool.and_eq_true, Bool.not_eq_true', decide_eq_true_eq] at hc
  have hst : stopI isLD g len (i + 1) = i + 1 := stopI_stop fun h => by rw [hn h.1] at h; exact absurd h.2 (by decide)
  have hw : hasT wordL (strOfNums [c]) = false := by
    have e : (strOfNums [c]).data.toList = [UInt8.ofNat c.toNat] := by simp [strOfNums, Lib.bytesOf]
    simp only [hasT, ba_toList, e]
    exact hc.1.1.2
  refine sc_tok hi ⟨by rw [hg]; exact hc.1.2, fun h => hc.2 (by rw [← hg]; exact h.1), fun h => hc.2 (by rw [← hg]; exact h.1)⟩ ?_
  unfold tokP
  rw [hg, if_pos hc.1.1.1, hst, sub_one, hg, hw]
  rfl
theorem sc_dig {g : Nat → Int} {len i : Nat} {c : Int} {bs : List Bool} (hc : 48 ≤ c ∧ c ≤ 57) (hg : g i = c) (hi : i < len) (hn : i + 1 < len → isLD (g (i + 1)) = false) : scI g len i bs = ((3, [c], i, i + 1), 0) :: scI g len (i + 1) bs := by
  have hD : isD c = true := by simp [isD]; omega
  have hL : isL c = false := by simp [isL]; omega
  have hB : blk c = false := by simp [blk]; omega
  have hnD : i + 1 < len → isD (g (i + 1)) = false := fun h => by have := hn h; simp only [isLD, Bool.or_eq_false_iff] at this; exact this.2
  have hnL : i + 1 < len → isL (g (i + 1)) = false := fun h => by have := hn h; simp only [isLD, Bool.or_eq_false_iff] at this; exact this.1
  have he : numEnd g len i = i + 1 := by
    unfold numEnd
    rw [stopI_step hi (by rw [hg]; exact hD)]
    exact stopI_stop fun h => by rw [hnD h.1] at h; exact absurd h.2 (by decide)
  have hok : numOk g len i = true := by
    unfold numOk
    rw [he, show i + 1 - i = 1 by omega]
    simp only [decVx, Nat.add_zero, hg, Bool.and_eq_true, Bool.not_eq_true', decide_eq_true_eq]
    refine ⟨⟨by omega, by simp⟩, ?_⟩
    by_cases h : i + 1 < len
    · simp [h, hnL h]
    · simp [h]
  refine sc_tok hi ⟨by rw [hg]; exact hB, fun h => by rw [hg] at h; omega, fun h => by rw [hg] at h; omega⟩ ?_
  unfold tokP
  rw [hg, if_neg (by simp [hL]), if_pos hD, if_pos hok, he, sub_one, hg]
end Go.Proofs.YtofgphapjjofnaaGreatDoor

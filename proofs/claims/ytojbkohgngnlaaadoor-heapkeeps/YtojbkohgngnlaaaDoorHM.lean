/- The law HeapBehind: the heap that it builds, purely. -/
import Derived.Test.YtojbkohgngnlaaaDoorHC1
import Derived.Test.YtojbkohgngnlaaaDoorHK
namespace Go.Proofs.YtojbkohgngnlaaaDoor
set_option linter.unusedSimpArgs false
set_option linter.unusedVariables false
set_option maxRecDepth 100000
open Go.RowKit Go.Shelf

def bth (i : Nat) (key : ByteArray) (j : Nat) : Th := ⟨1, if j = 0 then none else some (j - 1), if j < i then [(key, ⟨3, j, ByteArray.empty⟩)] else [], []⟩
/-- n things behind one another, of which the first i have the member. -/
def BH (n i : Nat) (key : ByteArray) : PH := ⟨5000, n + i, (List.range n).map (bth i key)⟩
theorem BH_get (n i : Nat) (key : ByteArray) (j : Nat) (hj : j < n) : (BH n i key).ths[j]? = some (bth i key j) := by simp [BH, hj]
theorem BH_none (n i : Nat) (key : ByteArray) (j : Nat) (hj : n ≤ j) : (BH n i key).ths[j]? = none := by simp [BH, hj]
theorem BH_len (n i : Nat) (key : ByteArray) : (BH n i key).ths.length = n := by simp [BH]
theorem cells_range (i : Nat) (key : ByteArray) : ∀ n, cellsH ((List.range n).map (bth i key)) ≤ n + i
  | 0 => by simp [cellsH]
  | n + 1 => by
    have h1 : ∀ n, cellsH ((List.range n).map (bth i key)) = n + min n i := by
      intro n
      induction n with
      | zero => simp [cellsH]
      | succ n ih =>
        rw [List.range_succ, List.map_append, cellsH, List.map_append, List.sum_append]
        unfold cellsH at ih
        rw [ih]
        by_cases h : n < i
        · simp [bth, cellsT, h]; omega
        · simp [bth, cellsT, h]; omega
    rw [h1]
    omega
theorem BH_cells (n i : Nat) (key : ByteArray) : cellsH (BH n i key).ths ≤ (BH n i key).used := cells_range i key n
theorem BH_make (n : Nat) (key : ByteArray) : (BH n 0 key).make 1 ((n : Int) - 1) = BH (n + 1) 0 key := by
  have hb : behK 1 (BH n 0 key) ((n : Int) - 1) = if n = 0 then none else some (n - 1) := by
    have hkd : kdP 1 ≠ 2 := by decide
    unfold behK
    rw [if_neg hkd]
    unfold behP kindP
    by_cases h : n = 0
    · subst h; simp
    · have e : ((n : Int) - 1).toNat = n - 1 := by omega
      rw [if_neg (by omega : ¬ (n : Int) - 1 < 0), e, BH_get n 0 key (n - 1) (by omega)]
      simp [bth, h]
  unfold PH.make
  rw [hb]
  unfold BH
  congr 1
  rw [List.range_succ, List.map_append]
  simp [bth, kdP]
theorem clamp_small (i : Nat) (h : i ≤ 1000) : clampN (i : Int) = i := by unfold clampN; rw [if_neg (by omega), if_neg (by omega)]
theorem BH_set (n i : Nat) (key : ByteArray) (hi : i < n) (hn : n ≤ 60) : (BH n i key).used1.setTh i (bth i key i) key (stl (BH n i key) ⟨3, i, ⟨#[]⟩⟩) = BH n (i + 1) key := by
  have e1 : stl (BH n i key) ⟨3, i, ⟨#[]⟩⟩ = ⟨3, i, ByteArray.empty⟩ := by
    simp [stl, clamp_small i (by omega)]
  rw [e1]
  unfold PH.setTh PH.used1 BH
  congr 1
  apply List.ext_getElem?
  intro j
  by_cases hj : j < n
  · by_cases e : i = j
    · subst e
      rw [List.getElem?_set_self (by simpa using hj)]
      simp [hj, bth, put]
    · rw [List.getElem?_set_ne e]
      simp only [List.getElem?_map, List.getElem?_range hj, Option.map_some]
      congr 1
      have : (j < i) = (j < i + 1) := by simp; omega
      simp [bth, this]
  · rw [List.getElem?_eq_none (by simp; omega), List.getElem?_eq_none (by simp; omega)]
theorem BH_find (n i : Nat) (key : ByteArray) (hi : 0 < i) : ∀ k, k < n → findP (BH n i key).ths key k = some ⟨3, (min (i - 1) k : Nat), ByteArray.empty⟩
  | 0, hk => by
    rw [findP_eq _ _ _ _ (BH_get n i key 0 hk) (by simp [bth])]
    simp [bth, hi, look, eqB_self]
  | k + 1, hk => by
    rw [findP_eq _ _ _ _ (BH_get n i key (k + 1) hk) (by simp [bth])]
    by_cases h : k + 1 < i
    · simp [bth, h, look, eqB_self]; omega
    · have := BH_find n i key hi k (by omega)
      simp only [bth, h, if_false, look, Nat.succ_ne_zero, Nat.add_sub_cancel, findO]
      rw [this]
      congr 2
      omega
theorem BH_fnd (n i : Nat) (key : ByteArray) (hi : 0 < i) (k : Nat) (hk : k < n) : fndP (BH n i key) k key = some ⟨3, (min (i - 1) k : Nat), ByteArray.empty⟩ := by
  unfold fndP
  rw [BH_get n i key k hk]
  simp only [bth]
  exact BH_find n i key hi k hk
end Go.Proofs.YtojbkohgngnlaaaDoor

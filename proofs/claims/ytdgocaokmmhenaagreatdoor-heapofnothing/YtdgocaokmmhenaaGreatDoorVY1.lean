/- An iterator over a string wherever it lies; the order of two texts by their runes, purely. -/
import Derived.Laws.RangeString
import Derived.Laws.RangeAny
import Derived.Test.YtdgocaokmmhenaaGreatDoorVY0
namespace Go.Proofs.YtdgocaokmmhenaaGreatDoor
set_option linter.unusedSimpArgs false
set_option linter.unusedVariables false
set_option maxRecDepth 100000
open Go.RowKit

theorem next_at {P : Program} (w : World) (b : Nat) (s : ByteArray) (pos : Nat) (h : w.heap[b]? = some (.stringIter s pos)) (hp : pos < s.size) :
    ∃ w', (∀ ty, (Instr.next (.pointer (some ⟨b, 0, none⟩)) true ty).run P w = .ok (.tuple #[.bool true, .int .i64 pos, .int .i32 (Utf8.decode s pos).1]) w') ∧ w'.heap[b]? = some (.stringIter s (pos + (Utf8.decode s pos).2)) ∧ w'.heap.size = w.heap.size ∧
      (∀ B a, Below B a w → B ≤ b → Below B a w') := by
  have hlt : b < w.heap.size := by
    rcases Nat.lt_or_ge b w.heap.size with h' | h'
    · exact h'
    · rw [Array.getElem?_eq_none h'] at h; cases h
  refine ⟨{ w with heap := w.heap.setIfInBounds b (.stringIter s (pos + (Utf8.decode s pos).2)) }, fun ty => ?_, ?_, ?_, ?_⟩
  · simp only [Instr.next, getObj, setObj, Sem.run_bind, Sem.run, h, Result.andThen, hp, if_true]
    simp [goInt, h]
  · show (w.heap.setIfInBounds b _)[b]? = _
    simp [hlt]
  · show (w.heap.setIfInBounds b _).size = _
    simp
  · intro B a hb hB
    refine hb.trans ⟨rfl, rfl, rfl, by show w.heap.size ≤ (w.heap.setIfInBounds b _).size; simp, fun k hk => ?_⟩
    show (w.heap.setIfInBounds b _)[k]? = _
    rw [Array.getElem?_setIfInBounds, if_neg (by omega)]
theorem next_end {P : Program} (w : World) (b : Nat) (s : ByteArray) (pos : Nat) (h : w.heap[b]? = some (.stringIter s pos)) (hp : ¬ pos < s.size) (ty : TypeId) :
    (Instr.next (.pointer (some ⟨b, 0, none⟩)) true ty).run P w = .ok (.tuple #[.bool false]) w := by
  simp [Instr.next, getObj, Sem.run, h, hp]

theorem dec_pos (s : ByteArray) (i : Nat) (h : i < s.size) : 1 ≤ (Utf8.decode s i).2 ∧ i + (Utf8.decode s i).2 ≤ s.size := by
  rw [(dec_eq s i h).2]
  exact ⟨step_pos h, step_le (Nat.le_of_lt h)⟩
theorem get_ext (s : ByteArray) (j k : Nat) (hj : j ≤ s.size) : (s.extract j s.size).get! k = s.get! (j + k) := by
  have e : gS (s.extract j s.size) k = gS s (j + k) := by
    unfold gS
    congr 2
    rw [ByteArray.data_extract]
    have hz : s.data.size = s.size := rfl
    rw [Array.getElem?_extract]
    split
    · rfl
    · rename_i h
      rw [Array.getElem?_eq_none (by omega)]
  rw [gS_get, gS_get] at e
  have e2 : ((s.extract j s.size).get! k).toNat = (s.get! (j + k)).toNat := by omega
  exact UInt8.toNat_inj.1 e2
theorem dec_ext (s : ByteArray) (j : Nat) (hj : j ≤ s.size) : Utf8.decode (s.extract j s.size) 0 = Utf8.decode s j := by
  have hz : (s.extract j s.size).size = s.size - j := by simp
  unfold Utf8.decode
  simp only [Nat.zero_add, get_ext s j _ hj, hz, show ∀ k, (k < s.size - j) = (j + k < s.size) from fun k => propext (by omega)]

/-- The order of two texts from these places on. -/
def cmpF (a b : ByteArray) : Nat → Nat → Nat → Int
  | 0, _, _ => 0
  | f + 1, i, j =>
    if i < a.size then
      if j < b.size then
        if (Utf8.decode a i).1 = (Utf8.decode b j).1 then cmpF a b f (i + (Utf8.decode a i).2) (j + (Utf8.decode b j).2)
        else if (Utf8.decode a i).1 < (Utf8.decode b j).1 then -1 else 1
      else 1
    else if j < b.size then -1 else 0
theorem cmpF_swap (a b : ByteArray) : ∀ f i j, cmpF b a f j i = -cmpF a b f i j := by
  intro f
  induction f with
  | zero => intro i j; rfl
  | succ f ih =>
    intro i j
    simp only [cmpF]
    by_cases h1 : i < a.size <;> by_cases h2 : j < b.size
    · simp only [h1, h2, if_true]
      by_cases h3 : (Utf8.decode a i).1 = (Utf8.decode b j).1
      · rw [if_pos h3, if_pos h3.symm, ih]
      · rw [if_neg h3, if_neg (fun e => h3 e.symm)]
        by_cases h4 : (Utf8.decode a i).1 < (Utf8.decode b j).1
        · rw [if_pos h4, if_neg (by omega)]; rfl
        · rw [if_neg h4, if_pos (by omega)]
    · simp [h1, h2]
    · simp [h1, h2]
    · simp [h1, h2]
end Go.Proofs.YtdgocaokmmhenaaGreatDoor

/- Where more than 64 brackets are open, that is told, whatever stands behind. -/
import Derived.Test.YtofgphapjjofnaaGreatDoorBB
namespace Go.Proofs.YtofgphapjjofnaaGreatDoor
set_option linter.unusedSimpArgs false
set_option linter.unusedVariables false

theorem cfN_congr {K K' : Nat → Int} {T T' : Nat → ByteArray} {m : Int} : ∀ (i : Nat), (∀ j, j < i → K j = K' j ∧ T j = T' j) → cN K T i = cN K' T' i ∧ fN K T m i = fN K' T' m i
  | 0, _ => ⟨rfl, rfl⟩
  | i + 1, h => by
    obtain ⟨h1, h2⟩ := cfN_congr (m := m) i fun j hj => h j (by omega)
    obtain ⟨h3, h4⟩ := h i (by omega)
    have hc : cN K T (i + 1) = cN K' T' (i + 1) := by simp only [cN, h1, h3, h4]
    exact ⟨hc, by simp only [fN, hc, h2]⟩
theorem fN_stay {K : Nat → Int} {T : Nat → ByteArray} {m : Int} {i : Nat} (h : 0 ≤ fN K T m i) : ∀ d, fN K T m (i + d) = fN K T m i
  | 0 => rfl
  | d + 1 => by
    have ih := fN_stay h d
    rw [← Nat.add_assoc]
    simp only [fN]
    rw [if_neg (by omega), ih]
theorem deep_pre {p q : List Tok} (h : 0 ≤ deepF p) : deepF (p ++ q) = deepF p := by
  unfold deepF at *
  have e := (cfN_congr (m := 64) (K := fun j => ((p ++ q).getD j tok0).1) (K' := fun j => (p.getD j tok0).1) (T := fun j => strOfNums ((p ++ q).getD j tok0).2.1) (T' := fun j => strOfNums (p.getD j tok0).2.1) p.length fun j hj => by
    simp only [List.getD_eq_getElem?_getD, List.getElem?_append_left hj, and_self]).2
  rw [List.length_append, fN_stay (by rw [e]; exact h), e]
theorem units_add (k : Nat) : ∀ (a b p : Nat), units k p (a + b) = units k p a ++ units k (p + opW k * a) b
  | 0, b, p => by simp [units]
  | a + 1, b, p => by
    rw [show a + 1 + b = (a + b) + 1 by omega]
    simp only [units]
    rw [units_add k a b, List.append_assoc, show p + opW k + opW k * a = p + opW k * (a + 1) by rw [Nat.mul_succ]; omega]
def dIx (k : Nat) : Nat := if k = 2 then 129 else if k = 3 then 192 else 64
def dAt (k : Nat) : Nat := if k = 2 then 129 else if k = 3 then 256 else 64
set_option maxRecDepth 100000 in
theorem deep_65 : ((List.range 4).all fun k => decide (deepF ((units k 0 65).map (·.1)) = (dIx k : Int)) && decide ((((units k 0 65).map (·.1))[dIx k]?.getD tok0).2.2.1 = dAt k) && decide (dIx k < ((units k 0 65).map (·.1)).length)) = true := by decide +kernel
theorem deep_bnd {k n : Nat} (hk : k < 4) (hn : 65 ≤ n) (r : List TokD) : ∃ t, deepF ((units k 0 n ++ r).map (·.1)) = (dIx k : Int) ∧ ((units k 0 n ++ r).map (·.1))[dIx k]? = some t ∧ t.2.2.1 = dAt k := by
  have h := List.all_eq_true.1 deep_65 k (List.mem_range.2 hk)
  simp only [Bool.and_eq_true, decide_eq_true_eq] at h
  obtain ⟨⟨h1, h2⟩, h3⟩ := h
  obtain ⟨d, rfl⟩ : ∃ d, n = 65 + d := ⟨n - 65, by omega⟩
  rw [units_add, List.append_assoc, List.map_append]
  refine ⟨((units k 0 65).map (·.1))[dIx k], ?_, ?_, ?_⟩
  · rw [deep_pre (by rw [h1]; omega), h1]
  · rw [List.getElem?_append_left h3, List.getElem?_eq_getElem h3]
  · rw [List.getElem?_eq_getElem h3] at h2
    exact h2
end Go.Proofs.YtofgphapjjofnaaGreatDoor

/- The lines of a row of bytes: where each begins and where it ends. -/
import Derived.Laws.BytesArg
import Derived.Test.YtpdkeggiokebmaaDoorB0
namespace Go.Proofs.YtpdkeggiokebmaaDoor
set_option linter.unusedSimpArgs false
set_option linter.unusedVariables false

/-- The lines that end ahead of the i-th byte, and where the next one begins. -/
def lns (g : Nat → Int) : Nat → List (Nat × Nat) × Nat
  | 0 => ([], 0)
  | i + 1 => if g i = 10 then ((lns g i).1 ++ [((lns g i).2, i)], i + 1) else lns g i
def allL (g : Nat → Int) (len : Nat) : List (Nat × Nat) := (lns g len).1 ++ [((lns g len).2, len)]
theorem lns_yes {g : Nat → Int} {i : Nat} (h : g i = 10) : lns g (i + 1) = ((lns g i).1 ++ [((lns g i).2, i)], i + 1) := by simp [lns, h]
theorem lns_no {g : Nat → Int} {i : Nat} (h : g i ≠ 10) : lns g (i + 1) = lns g i := by simp [lns, h]
theorem lns_le (g : Nat → Int) : ∀ i, (lns g i).2 ≤ i
  | 0 => Nat.le_refl _
  | i + 1 => by
    by_cases h : g i = 10
    · rw [lns_yes h]; exact Nat.le_refl _
    · rw [lns_no h]; exact Nat.le_succ_of_le (lns_le g i)
theorem lns_length (g : Nat → Int) : ∀ i, (lns g i).1.length ≤ i
  | 0 => Nat.le_refl _
  | i + 1 => by
    by_cases h : g i = 10
    · rw [lns_yes h]; simpa using lns_length g i
    · rw [lns_no h]; exact Nat.le_succ_of_le (lns_length g i)
theorem lns_mem (g : Nat → Int) : ∀ i x, x ∈ (lns g i).1 → x.1 ≤ x.2 ∧ x.2 < i
  | 0, x, h => by simp [lns] at h
  | i + 1, x, h => by
    by_cases hg : g i = 10
    · rw [lns_yes hg] at h
      simp at h
      rcases h with h | rfl
      · have := lns_mem g i x h; omega
      · exact ⟨lns_le g i, by simp⟩
    · rw [lns_no hg] at h
      have := lns_mem g i x h; omega
theorem allL_mem {g : Nat → Int} {len : Nat} {x : Nat × Nat} (h : x ∈ allL g len) : x.1 ≤ x.2 ∧ x.2 ≤ len := by
  simp only [allL, List.mem_append, List.mem_singleton] at h
  rcases h with h | rfl
  · have := lns_mem g len x h; omega
  · exact ⟨lns_le g len, Nat.le_refl _⟩
theorem allL_length (g : Nat → Int) (len : Nat) : (allL g len).length ≤ len + 1 ∧ 0 < (allL g len).length := by
  have := lns_length g len
  simp [allL]; omega
theorem lns_mono (g : Nat → Int) {i j : Nat} (h : i ≤ j) : (lns g i).1 <+: (lns g j).1 := by
  induction h with
  | refl => exact List.prefix_refl _
  | @step m hm ih =>
    refine ih.trans ?_
    by_cases hg : g m = 10
    · rw [lns_yes hg]; exact List.prefix_append _ _
    · rw [lns_no hg]; exact List.prefix_refl _
theorem lns_allL (g : Nat → Int) {i len : Nat} (h : i ≤ len) : (lns g i).1 <+: allL g len := (lns_mono g h).trans (List.prefix_append _ _)

/-- The bytes from one place to another. -/
def sub (g : Nat → Int) (a b : Nat) : List Int := upto (fun j => g (a + j)) (b - a)
theorem sub_length (g : Nat → Int) (a b : Nat) : (sub g a b).length = b - a := by rw [sub, upto_length]
theorem upto_add {α : Type} (f : Nat → α) (a b : Nat) : upto f (a + b) = upto f a ++ upto (fun j => f (a + j)) b := by
  simp [upto, List.range_add, List.map_map, Function.comp_def]
theorem sub_whole (g : Nat → Int) {a b : Nat} (h : a ≤ b) : upto g a ++ sub g a b = upto g b := by
  rw [sub, ← upto_add, show a + (b - a) = b from by omega]
/-- Lines laid behind each other, a 0A between them; how many there are. -/
def jn (g : Nat → Int) (l : List (Nat × Nat)) : Nat × List Int := l.foldl (fun s x => (s.1 + 1, (if 0 < s.1 then s.2 ++ [10] else s.2) ++ sub g x.1 x.2)) (0, [])
theorem jn_snoc (g : Nat → Int) (l : List (Nat × Nat)) (x : Nat × Nat) : jn g (l ++ [x]) = ((jn g l).1 + 1, (if 0 < (jn g l).1 then (jn g l).2 ++ [10] else (jn g l).2) ++ sub g x.1 x.2) := by
  unfold jn
  rw [List.foldl_append]
  rfl
theorem jn_fst_aux (g : Nat → Int) : ∀ n (l : List (Nat × Nat)), l.length = n → (jn g l).1 = n
  | 0, l, h => by obtain rfl := List.length_eq_zero_iff.1 h; rfl
  | n + 1, l, h => by
    have hne : l ≠ [] := by intro e; subst e; simp at h
    rw [← List.dropLast_concat_getLast hne, jn_snoc]
    have := jn_fst_aux g n l.dropLast (by simp [h])
    simp [this]
theorem jn_fst (g : Nat → Int) (l : List (Nat × Nat)) : (jn g l).1 = l.length := jn_fst_aux g _ l rfl
theorem jn_lns (g : Nat → Int) : ∀ i, ((lns g i).1 = [] ∧ (lns g i).2 = 0) ∨ ((lns g i).1 ≠ [] ∧ 0 < (lns g i).2 ∧ g ((lns g i).2 - 1) = 10 ∧ (jn g (lns g i).1).2 = upto g ((lns g i).2 - 1))
  | 0 => .inl ⟨rfl, rfl⟩
  | i + 1 => by
    by_cases h : g i = 10
    · rw [lns_yes h]
      refine .inr ⟨by simp, by simp, by simpa using h, ?_⟩
      rw [jn_snoc]
      simp only [Nat.add_sub_cancel]
      rcases jn_lns g i with ⟨h1, h2⟩ | ⟨h1, h2, h3, h4⟩
      · rw [h1, h2]
        have := sub_whole g (Nat.zero_le i)
        simpa [jn, upto] using this
      · have hl : 0 < (jn g (lns g i).1).1 := by rw [jn_fst]; exact List.length_pos_iff.2 h1
        rw [if_pos hl, h4]
        have e1 : upto g ((lns g i).2 - 1) ++ [10] = upto g (lns g i).2 := by
          have := upto_succ g ((lns g i).2 - 1)
          rw [h3, show (lns g i).2 - 1 + 1 = (lns g i).2 from by omega] at this
          exact this.symm
        rw [e1]
        exact sub_whole g (lns_le g i)
    · rw [lns_no h]; exact jn_lns g i
/-- The lines laid behind each other are the bytes. -/
theorem jn_all (g : Nat → Int) (len : Nat) : (jn g (allL g len)).2 = upto g len := by
  rw [allL, jn_snoc]
  rcases jn_lns g len with ⟨h1, h2⟩ | ⟨h1, h2, h3, h4⟩
  · rw [h1, h2]
    have := sub_whole g (Nat.zero_le len)
    simpa [jn, upto] using this
  · have hl : 0 < (jn g (lns g len).1).1 := by rw [jn_fst]; exact List.length_pos_iff.2 h1
    simp only []
    rw [if_pos hl, h4]
    have e1 : upto g ((lns g len).2 - 1) ++ [10] = upto g (lns g len).2 := by
      have := upto_succ g ((lns g len).2 - 1)
      rw [h3, show (lns g len).2 - 1 + 1 = (lns g len).2 from by omega] at this
      exact this.symm
    rw [e1]
    exact sub_whole g (lns_le g len)
theorem nums_append (xs ys : List Int) : strOfNums xs ++ strOfNums ys = strOfNums (xs ++ ys) := by
  apply ByteArray.ext
  simp [strOfNums]
theorem nums_inj {xs ys : List Int} (hx : ∀ x ∈ xs, 0 ≤ x ∧ x ≤ 255) (hy : ∀ y ∈ ys, 0 ≤ y ∧ y ≤ 255) (h : strOfNums xs = strOfNums ys) : xs.length = ys.length := by
  have := congrArg ByteArray.size h
  rwa [strOfNums_size, strOfNums_size] at this
end Go.Proofs.YtpdkeggiokebmaaDoor

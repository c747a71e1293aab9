/- Trees that Check takes: each node spans a stretch of the row, its kids' stretches one behind the other. -/
import Derived.Test.YtnnpkomedpjlcaaGreatDoorTJ
namespace Go.Proofs.YtnnpkomedpjlcaaGreatDoor
set_option linter.unusedSimpArgs false
set_option linter.unusedVariables false
/-- A node and all beneath it are fine. -/
def Fine (l : List Nd) (n : Nat) : Prop := n < l.length ∧ (lookP l l.length n).1 < 0
/-- The number behind what is beneath a node. -/
def en (l : List Nd) (n : Nat) : Nat := (lookP l l.length n).2
/-- Kids, one behind the other. -/
def Chain (l : List Nd) : List Int → Nat → Nat → Prop
  | [], next, e => e = next
  | k :: ks, next, e => k = (next : Int) ∧ Fine l next ∧ Chain l ks (en l next) e

theorem chain_of {l : List Nd} {n : Nat} : ∀ (ks : List Int) (next : Nat), (∀ k ∈ ks, ins l k = true) → (lookK (lookP l l.length) n ks next).1 < 0 → Chain l ks next (lookK (lookP l l.length) n ks next).2
  | [], next, _, _ => rfl
  | k :: ks, next, hi, h => by
    simp only [lookK] at h ⊢
    by_cases hk : k = (next : Int)
    · rw [if_pos hk] at h ⊢
      have hk' := (ins_iff'.1 (hi k (by simp))).2
      by_cases hb : (lookP l l.length next).1 < 0
      · rw [if_pos hb] at h ⊢
        exact ⟨hk, ⟨by omega, hb⟩, chain_of ks _ (fun k hk => hi k (by simp [hk])) h⟩
      · rw [if_neg hb] at h
        exact absurd h hb
    · rw [if_neg hk] at h
      exact absurd h (show ¬ (n : Int) < 0 by omega)
theorem look_step {l : List Nd} {n : Nat} (hl : n < l.length) (h : fitP l n = true) : lookP l l.length n = lookK (lookP l l.length) n (nd l n).kids (n + 1) := by
  obtain ⟨f, hf⟩ : ∃ f, l.length = f + 1 := ⟨l.length - 1, by omega⟩
  have e1 : lookP l l.length n = lookK (lookP l f) n (nd l n).kids (n + 1) := by rw [hf]; simp [lookP, h]
  rw [e1]
  exact lookK_congr _ _ (fun m _ hm => lookP_ok f m hm) (fun m hm hm2 => lookP_fuel (l.length - m) m f l.length (Nat.le_refl _) hm2 (by omega) (by omega)) (fit_ins h)
theorem Fine.fit {l : List Nd} {n : Nat} (h : Fine l n) : fitP l n = true := by
  obtain ⟨f, hf⟩ : ∃ f, l.length = f + 1 := ⟨l.length - 1, by have := h.1; omega⟩
  cases e : fitP l n with
  | true => rfl
  | false =>
    have h2 := h.2
    rw [hf] at h2
    simp [lookP, e] at h2
    omega
theorem Fine.chain {l : List Nd} {n : Nat} (h : Fine l n) : Chain l (nd l n).kids (n + 1) (en l n) := by
  have h1 := h.fit
  have h2 := h.2
  rw [en, look_step h.1 h1]
  rw [look_step h.1 h1] at h2
  exact chain_of _ _ (fit_ins h1) h2
theorem Fine.le {l : List Nd} {n : Nat} (h : Fine l n) : n + 1 ≤ en l n ∧ en l n ≤ l.length := lookP_ok _ _ h.1
theorem Fine.ins {l : List Nd} {n : Nat} (h : Fine l n) : ∀ k ∈ (nd l n).kids, ins l k = true := fit_ins h.fit
theorem chain_le {l : List Nd} : ∀ (ks : List Int) (next e : Nat), Chain l ks next e → next ≤ e
  | [], next, e, h => by rw [show e = next from h]; exact Nat.le_refl _
  | k :: ks, next, e, h => by
    have := chain_le ks _ _ h.2.2
    have := h.2.1.le
    omega
theorem chain_mem {l : List Nd} : ∀ (ks : List Int) (next e m : Nat), Chain l ks next e → next ≤ m → m < e → ∃ q, Fine l q ∧ next ≤ q ∧ q ≤ m ∧ m < en l q
  | [], next, e, m, h, h1, h2 => by rw [show e = next from h] at h2; omega
  | k :: ks, next, e, m, h, h1, h2 => by
    by_cases hm : m < en l next
    · exact ⟨next, h.2.1, Nat.le_refl _, h1, hm⟩
    · obtain ⟨q, a, b, c, d⟩ := chain_mem ks _ _ m h.2.2 (by omega) h2
      have := h.2.1.le
      exact ⟨q, a, by omega, c, d⟩
theorem fine_in {l : List Nd} : ∀ (d n m : Nat), l.length - n ≤ d → Fine l n → n ≤ m → m < en l n → Fine l m
  | 0, n, m, hd, h, _, _ => by have := h.1; omega
  | d + 1, n, m, hd, h, h1, h2 => by
    by_cases e : m = n
    · rw [e]; exact h
    · obtain ⟨q, a, b, c, dd⟩ := chain_mem _ _ _ m h.chain (by omega) h2
      exact fine_in d q m (by omega) a c dd
theorem Fine.inner {l : List Nd} {n m : Nat} (h : Fine l n) (h1 : n ≤ m) (h2 : m < en l n) : Fine l m := fine_in _ n m (Nat.le_refl _) h h1 h2
theorem chk_fine {l : List Nd} (h : (chkP l).2 = 0) : 0 < l.length ∧ Fine l 0 ∧ en l 0 = l.length := by
  simp only [chkP] at h
  by_cases h0 : l.length = 0
  · rw [if_pos h0] at h; cases h
  · rw [if_neg h0] at h
    have hp : 0 < l.length := by omega
    simp only [outP] at h
    by_cases h1 : (lookP l l.length 0).1 < 0
    · rw [if_pos h1] at h
      have h2 : ¬ (lookP l l.length 0).2 < l.length := fun h2 => by rw [if_pos h2] at h; cases h
      have := (lookP_ok (l := l) l.length 0 hp).2
      exact ⟨hp, ⟨hp, h1⟩, by show (lookP l l.length 0).2 = _; omega⟩
    · rw [if_neg h1] at h; cases h
theorem chk_all {l : List Nd} (h : (chkP l).2 = 0) {m : Nat} (hm : m < l.length) : Fine l m := by
  obtain ⟨a, b, c⟩ := chk_fine h
  exact b.inner (Nat.zero_le _) (by omega)
/-- The number of the j-th kid, behind the last the end. -/
def stp (ks : List Int) (e j : Nat) : Nat := if j < ks.length then (ks.getD j 0).toNat else e
theorem chain_stp {l : List Nd} : ∀ (ks : List Int) (next e : Nat), Chain l ks next e → stp ks e 0 = next ∧ ∀ j, j < ks.length → ks.getD j 0 = (stp ks e j : Int) ∧ Fine l (stp ks e j) ∧ stp ks e (j + 1) = en l (stp ks e j)
  | [], next, e, h => ⟨h, fun j hj => by simp at hj⟩
  | k :: ks, next, e, h => by
    obtain ⟨hk, hf, hc⟩ := h
    obtain ⟨i0, i1⟩ := chain_stp ks _ e hc
    have e0 : stp (k :: ks) e 0 = next := by simp [stp, hk]
    have es : ∀ j, stp (k :: ks) e (j + 1) = stp ks e j := fun j => by simp [stp]
    refine ⟨e0, fun j hj => ?_⟩
    cases j with
    | zero => rw [e0, es, i0]; exact ⟨by simpa using hk, hf, rfl⟩
    | succ j =>
      rw [es, es]
      have := i1 j (by simpa using hj)
      simpa using this
/-- The last kid's end is the node's. -/
theorem Fine.last {l : List Nd} {n : Nat} (h : Fine l n) (hk : 0 < (nd l n).kids.length) : ∃ q : Nat, (nd l n).kids.getD ((nd l n).kids.length - 1) 0 = (q : Int) ∧ Fine l q ∧ n < q ∧ en l q = en l n := by
  obtain ⟨h0, h1⟩ := chain_stp _ _ _ h.chain
  obtain ⟨a, b, c⟩ := h1 ((nd l n).kids.length - 1) (by omega)
  refine ⟨_, a, b, ?_, ?_⟩
  · clear a b c
    have : ∀ j, j < (nd l n).kids.length → n < stp (nd l n).kids (en l n) j := by
      intro j
      induction j with
      | zero => intro _; omega
      | succ j ih =>
        intro hj
        have := ih (by omega)
        have h2 := h1 j (by omega)
        have := h2.2.1.le
        omega
    exact this _ (by omega)
  · rw [← c, stp, if_neg (by omega)]
theorem Fine.leaf {l : List Nd} {n : Nat} (h : Fine l n) (hk : (nd l n).kids = []) : en l n = n + 1 := by
  have := h.chain
  rw [hk] at this
  exact this

/-- A stretch of a row. -/
def str (l : List Nd) (a b : Nat) : List Nd := (l.drop a).take (b - a)
theorem str_len {l : List Nd} {a b : Nat} (hb : b ≤ l.length) : (str l a b).length = b - a := by simp [str]; omega
theorem str_get {l : List Nd} {a b j : Nat} : (str l a b)[j]? = if j < b - a then l[a + j]? else none := by
  simp [str, List.getElem?_take, List.getElem?_drop]
theorem str_append {l : List Nd} {a b c : Nat} (h1 : a ≤ b) (h2 : b ≤ c) (h3 : c ≤ l.length) : str l a b ++ str l b c = str l a c := by
  apply List.ext_getElem?
  intro j
  by_cases hj : j < b - a
  · rw [List.getElem?_append_left (by rw [str_len (by omega)]; exact hj), str_get, str_get, if_pos hj, if_pos (by omega)]
  · rw [List.getElem?_append_right (by rw [str_len (by omega)]; omega), str_get, str_get, str_len (by omega)]
    by_cases h : j < c - a
    · rw [if_pos (by omega), if_pos h, show b + (j - (b - a)) = a + j from by omega]
    · rw [if_neg (by omega), if_neg h]
theorem str_nd {l : List Nd} {a b j : Nat} (hj : j < b - a) : nd (str l a b) j = nd l (a + j) := by
  simp only [nd, List.getD_eq_getElem?_getD, str_get, if_pos hj]
theorem str_mem {l : List Nd} {a b : Nat} {x : Nd} (hb : b ≤ l.length) (h : x ∈ str l a b) : ∃ m, a ≤ m ∧ m < b ∧ x = nd l m := by
  obtain ⟨j, hj⟩ := List.getElem?_of_mem h
  have hlt : j < b - a := by have := (List.getElem?_eq_some_iff.1 hj).1; rwa [str_len hb] at this
  rw [str_get, if_pos hlt] at hj
  exact ⟨a + j, by omega, by omega, by simp [nd, List.getD_eq_getElem?_getD, hj]⟩
theorem str_all (l : List Nd) : str l 0 l.length = l := by simp [str]
end Go.Proofs.YtnnpkomedpjlcaaGreatDoor

/- The tokens of a text that opens n brackets, has a 1 and closes them. -/
import Derived.Test.YtofgphapjjofnaaGreatDoorBA
namespace Go.Proofs.YtofgphapjjofnaaGreatDoor
set_option linter.unusedSimpArgs false
set_option linter.unusedVariables false

/-- What closes. -/
theorem sc_shuts {g : Nat → Int} {len : Nat} {c : Int} (hc : oneB c = true) (hc' : c ≠ 123) : ∀ (m i : Nat) (bs : List Bool), (∀ j, j < m → g (i + j) = c) → i + m = len → (c = 125 → ∀ b ∈ bs, b = false) → okI (scI g len i bs) ∧ (scI g len i bs).length = m + 1
  | 0, i, bs, _, hl, _ => by
    rw [sc_end (by omega)]
    exact ⟨fun t ht => by simp at ht; rw [ht], rfl⟩
  | m + 1, i, bs, hg, hl, hb => by
    have h1 := sc_shuts (g := g) (len := len) hc hc' m (i + 1) (bsOf c bs) (fun j hj => by rw [show i + 1 + j = i + (j + 1) by omega]; exact hg _ (by omega)) (by omega) (fun e b hm => hb e b (by
      unfold bsOf at hm
      rw [if_neg hc', if_pos e] at hm
      exact (List.dropLast_subset bs) hm))
    have hlast : c = 125 → lastB bs = false := fun e => by
      unfold lastB
      by_cases h0 : 0 < bs.length
      · have : bs.getD (bs.length - 1) false = false := by
          rw [List.getD_eq_getElem?_getD, List.getElem?_eq_getElem (by omega)]
          exact hb e _ (List.getElem_mem _)
        rw [this]; simp
      · simp [h0]
    have g0 : g i = c := hg 0 (by omega)
    rw [sc_one hc g0 (by omega) hlast]
    refine ⟨fun t ht => ?_, by rw [List.length_cons, h1.2]⟩
    rcases List.mem_cons.1 ht with rfl | h
    · rfl
    · exact h1.1 t h
/-- What opens, how wide it is, its tokens, what it leaves open. -/
def opB (k : Nat) : List Int := if k = 0 then [40] else if k = 1 then [91] else if k = 2 then [102, 40] else [123, 97, 58, 32]
def shC (k : Nat) : Int := if k = 1 then 93 else if k = 3 then 125 else 41
def opW (k : Nat) : Nat := if k = 0 ∨ k = 1 then 1 else if k = 2 then 2 else 4
def uT (k p : Nat) : List TokD := if k = 0 then [((9, [40], p, p + 1), 0)] else if k = 1 then [((9, [91], p, p + 1), 0)] else if k = 2 then [((1, [102], p, p + 1), 0), ((9, [40], p + 1, p + 2), 0)] else [((9, [123], p, p + 1), 0), ((1, [97], p + 1, p + 2), 0), ((9, [58], p + 2, p + 3), 0)]
def units (k : Nat) : Nat → Nat → List TokD
  | _, 0 => []
  | p, m + 1 => uT k p ++ units k (p + opW k) m
/-- The text: n open, 1, n closed. -/
structure Bnd (k n : Nat) (g : Nat → Int) (len : Nat) : Prop where
  k4 : k < 4
  len : len = opW k * n + 1 + n
  op : ∀ j, j < n → ∀ r, r < opW k → g (opW k * j + r) = (opB k).getD r 0
  one : g (opW k * n) = 49
  sh : ∀ j, j < n → g (opW k * n + 1 + j) = shC k
theorem sc_opens {k n : Nat} {g : Nat → Int} {len : Nat} (h : Bnd k n g len) : ∀ (m j : Nat) (bs : List Bool), j + m = n → (k = 3 → ∀ b ∈ bs, b = false) → ∃ bs', (k = 3 → ∀ b ∈ bs', b = false) ∧ scI g len (opW k * j) bs = units k (opW k * j) m ++ scI g len (opW k * n) bs'
  | 0, j, bs, hj, hb => ⟨bs, hb, by rw [show j = n by omega]; rfl⟩
  | m + 1, j, bs, hj, hb => by
    obtain ⟨bs', hb', ih⟩ := sc_opens h m (j + 1) (if k = 3 then bs ++ [false] else bs) (by omega) (fun e b hm => by
      rw [if_pos e] at hm
      rcases List.mem_append.1 hm with h1 | h1
      · exact hb e b h1
      · simpa using h1)
    refine ⟨bs', hb', ?_⟩
    have hk := h.k4
    have hlen := h.len
    have hop := h.op j (by omega)
    have hone := h.one
    obtain rfl | rfl | rfl | rfl : k = 0 ∨ k = 1 ∨ k = 2 ∨ k = 3 := by omega
    · have g0 : g j = 40 := by simpa [opW, opB] using hop 0 (by decide)
      simp only [opW, true_or, if_true, Nat.one_mul] at *
      rw [sc_one (by decide +kernel) g0 (by omega) (by intro e; cases e)]
      simp only [units, uT, if_true, opW, true_or]
      rw [show bsOf 40 bs = bs from rfl]
      simpa using ih
    · have g0 : g j = 91 := by simpa [opW, opB] using hop 0 (by decide)
      simp only [opW, or_true, if_true, Nat.one_mul] at *
      rw [sc_one (by decide +kernel) g0 (by omega) (by intro e; cases e)]
      simp only [units, uT, if_true, opW, or_true]
      rw [show bsOf 91 bs = bs from rfl]
      simpa using ih
    · have g0 : g (2 * j) = 102 := by simpa [opW, opB] using hop 0 (by decide)
      have g1 : g (2 * j + 1) = 40 := by simpa [opW, opB] using hop 1 (by decide)
      have hl : 2 * j + 2 < len := by rw [hlen]; simp [opW]; omega
      rw [show opW 2 * j = 2 * j from rfl, sc_let (by decide +kernel) g0 (by omega) (fun _ => by rw [g1]; decide), sc_one (by decide +kernel) g1 (by omega) (by intro e; cases e)]
      rw [show bsOf 40 bs = bs from rfl]
      have e : opW 2 * (j + 1) = 2 * j + 1 + 1 := by simp [opW]; omega
      rw [e] at ih
      simp only [if_neg (show ¬ (2 = 3) by decide)] at ih
      rw [ih]
      rfl
    · have g0 : g (4 * j) = 123 := by simpa [opW, opB] using hop 0 (by decide)
      have g1 : g (4 * j + 1) = 97 := by simpa [opW, opB] using hop 1 (by decide)
      have g2 : g (4 * j + 2) = 58 := by simpa [opW, opB] using hop 2 (by decide)
      have g3 : g (4 * j + 3) = 32 := by simpa [opW, opB] using hop 3 (by decide)
      have hl : 4 * j + 4 < len := by rw [hlen]; simp [opW]; omega
      rw [show opW 3 * j = 4 * j from rfl, sc_one (by decide +kernel) g0 (by omega) (by intro e; cases e), sc_let (by decide +kernel) g1 (by omega) (fun _ => by rw [g2]; decide), sc_one (by decide +kernel) g2 (by omega) (by intro e; cases e), sc_blk (by omega) (by rw [g3]; decide)]
      rw [show bsOf 58 (bsOf 123 bs) = bs ++ [false] from rfl]
      have e : opW 3 * (j + 1) = 4 * j + 1 + 1 + 1 + 1 := by simp [opW]; omega
      rw [e] at ih
      simp only [if_true] at ih
      rw [ih]
      rfl
/-- All of its tokens are good; the first ones are those that open. -/
theorem bnd_toks {k n : Nat} {g : Nat → Int} {len : Nat} (h : Bnd k n g len) (hn : n ≤ 200) : okI (scI g len 0 []) ∧ 0 < (scI g len 0 []).length ∧ (scI g len 0 []).length ≤ 100000 ∧ ∃ r, scI g len 0 [] = units k 0 n ++ r := by
  obtain ⟨bs', hb', e⟩ := sc_opens h n 0 [] (by omega) (fun _ b hm => by simp at hm)
  rw [Nat.mul_zero] at e
  have hk := h.k4
  have hlen := h.len
  have hs : okI (scI g len (opW k * n + 1) bs') ∧ (scI g len (opW k * n + 1) bs').length = n + 1 := by
    refine sc_shuts (c := shC k) ?_ ?_ n _ _ h.sh (by omega) ?_
    · obtain rfl | rfl | rfl | rfl : k = 0 ∨ k = 1 ∨ k = 2 ∨ k = 3 := by omega
      all_goals decide +kernel
    · unfold shC; split <;> (try split) <;> decide
    · intro e
      refine hb' ?_
      unfold shC at e
      split at e
      · cases e
      · split at e
        · assumption
        · cases e
  have hd : scI g len (opW k * n) bs' = ((3, [49], opW k * n, opW k * n + 1), 0) :: scI g len (opW k * n + 1) bs' := by
    refine sc_dig (by decide) h.one (by omega) fun hl => ?_
    have : 0 < n := by omega
    have h0 := h.sh 0 this
    rw [Nat.add_zero] at h0
    rw [h0]
    unfold shC
    split <;> (try split) <;> decide
  have hu : ∀ (m p : Nat), (∀ t ∈ units k p m, t.2 = 0) ∧ (units k p m).length ≤ 3 * m := by
    intro m
    induction m with
    | zero => intro p; exact ⟨fun t ht => by simp [units] at ht, by simp [units]⟩
    | succ m ih =>
      intro p
      obtain ⟨i1, i2⟩ := ih (p + opW k)
      refine ⟨fun t ht => ?_, ?_⟩
      · rcases List.mem_append.1 ht with h1 | h1
        · unfold uT at h1
          (repeat' split at h1) <;> simp at h1 <;> first | (rw [h1]; done) | (rcases h1 with h2 | h2 | h2 <;> rw [h2]; done) | (rcases h1 with h2 | h2 <;> rw [h2])
        · exact i1 t h1
      · simp only [units, List.length_append]
        have : (uT k p).length ≤ 3 := by unfold uT; (repeat' split) <;> simp
        omega
  rw [e, hd]
  refine ⟨fun t ht => ?_, by simp only [List.length_append, List.length_cons]; omega, ?_, _, rfl⟩
  · rcases List.mem_append.1 ht with h1 | h1
    · exact (hu n 0).1 t h1
    · rcases List.mem_cons.1 h1 with rfl | h2
      · rfl
      · exact hs.1 t h2
  · rw [List.length_append, List.length_cons, hs.2]
    have := (hu n 0).2
    omega
end Go.Proofs.YtofgphapjjofnaaGreatDoor

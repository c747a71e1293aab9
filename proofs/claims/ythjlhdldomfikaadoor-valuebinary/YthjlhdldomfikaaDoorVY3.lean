/- Two texts that are UTF-8 all through and have the same runes are the same. -/
import Derived.Test.YthjlhdldomfikaaDoorVY1
namespace Go.Proofs.YthjlhdldomfikaaDoor
set_option linter.unusedSimpArgs false
set_option linter.unusedVariables false
set_option maxRecDepth 100000

theorem wid_of (x : Int) (h : wid x ≠ 0) : (wid x = 1 ∧ x < 128 ∧ dig x = x ∧ lst x = 0) ∨ (wid x = 2 ∧ 192 ≤ x ∧ x < 224 ∧ dig x = x - 192 ∧ lst x = 128) ∨ (wid x = 3 ∧ 224 ≤ x ∧ x < 240 ∧ dig x = x - 224 ∧ lst x = 2048) ∨ (wid x = 4 ∧ 240 ≤ x ∧ x < 248 ∧ dig x = x - 240 ∧ lst x = 65536) := by
  unfold wid dig lst at *
  by_cases h1 : x < 128
  · simp [h1]
  · by_cases h2 : x < 192
    · simp [h1, h2] at h
    · by_cases h3 : x < 224
      · simp [h1, h2, h3]; omega
      · by_cases h4 : x < 240
        · simp [h1, h2, h3, h4]; omega
        · by_cases h5 : x < 248
          · simp [h1, h2, h3, h4, h5]; omega
          · simp [h1, h2, h3, h4, h5] at h
/-- A good rune tells its bytes. -/
theorem rune_inj {g g' : Nat → Int} {len len' i i' : Nat} (h0 : 0 ≤ g i) (h0' : 0 ≤ g' i') (h : good g len i = true) (h' : good g' len' i' = true) (he : acc g i (wid (g i) - 1) = acc g' i' (wid (g' i') - 1)) :
    wid (g i) = wid (g' i') ∧ ∀ t, t < wid (g i) → g (i + t) = g' (i' + t) := by
  obtain ⟨a1, a2, a3, a4, a5⟩ := good_inv h
  obtain ⟨b1, b2, b3, b4, b5⟩ := good_inv h'
  have ca := fun j => conts_lt a3 j
  have cb := fun j => conts_lt b3 j
  have u0 := ca 0
  have u1 := ca 1
  have u2 := ca 2
  have v0 := cb 0
  have v1 := cb 1
  have v2 := cb 2
  clear ca cb a2 a3 a5 b2 b3 b5 h h'
  rcases wid_of _ a1 with ⟨e1, e2, e3, e4⟩ | ⟨e1, e2, e3, e4, e5⟩ | ⟨e1, e2, e3, e4, e5⟩ | ⟨e1, e2, e3, e4, e5⟩ <;>
    rcases wid_of _ b1 with ⟨f1, f2, f3, f4⟩ | ⟨f1, f2, f3, f4, f5⟩ | ⟨f1, f2, f3, f4, f5⟩ | ⟨f1, f2, f3, f4, f5⟩ <;>
    rw [e1] at he a4 u0 u1 u2 <;> rw [f1] at he b4 v0 v1 v2 <;> simp [acc] at he a4 b4 u0 u1 u2 v0 v1 v2
  all_goals
    have r1 : g (i + 1 + 1) = g (i + 2) := rfl
    have r2 : g (i + 1 + 2) = g (i + 3) := rfl
    have r3 : g' (i' + 1 + 1) = g' (i' + 2) := rfl
    have r4 : g' (i' + 1 + 2) = g' (i' + 3) := rfl
    have r5 : g (i + 0) = g i := rfl
    have r6 : g' (i' + 0) = g' i' := rfl
    clear a1 b1
  all_goals first
    | (exfalso; omega)
    | (refine ⟨by omega, fun t ht => ?_⟩
       rw [e1] at ht
       have hc : t = 0 ∨ t = 1 ∨ t = 2 ∨ t = 3 := by omega
       rcases hc with rfl | rfl | rfl | rfl <;> omega)
/-- Good all through. -/
def GoodT (s : ByteArray) : Prop := ∀ k, posn (gS s) s.size k < s.size → good (gS s) s.size (posn (gS s) s.size k) = true
theorem gS_pos (s : ByteArray) (j : Nat) : 0 ≤ gS s j := by unfold gS; omega
theorem cmp_zero (a b : ByteArray) (ha : GoodT a) (hb : GoodT b) : ∀ f k, a.size < posn (gS a) a.size k + f → cmpF a b f (posn (gS a) a.size k) (posn (gS b) b.size k) = 0 →
    a.size - posn (gS a) a.size k = b.size - posn (gS b) b.size k ∧ ∀ t, posn (gS a) a.size k + t < a.size → gS a (posn (gS a) a.size k + t) = gS b (posn (gS b) b.size k + t) := by
  intro f
  induction f with
  | zero => intro k h; have := posn_le (gS a) a.size k; omega
  | succ f ih =>
    intro k h hc
    have la := posn_le (gS a) a.size k
    have lb := posn_le (gS b) b.size k
    have iha := ih (k + 1)
    have ga := ha k
    have gb := hb k
    have sa : posn (gS a) a.size (k + 1) = posn (gS a) a.size k + stepN (gS a) a.size (posn (gS a) a.size k) := rfl
    have sb : posn (gS b) b.size (k + 1) = posn (gS b) b.size k + stepN (gS b) b.size (posn (gS b) b.size k) := rfl
    rw [sa, sb] at iha
    clear sa sb ih
    obtain ⟨i, hi⟩ : ∃ i, posn (gS a) a.size k = i := ⟨_, rfl⟩
    obtain ⟨j, hj⟩ : ∃ j, posn (gS b) b.size k = j := ⟨_, rfl⟩
    rw [hi] at iha ga h hc la ⊢
    rw [hj] at iha gb hc lb ⊢
    simp only [cmpF] at hc
    by_cases h1 : i < a.size <;> by_cases h2 : j < b.size
    · simp only [h1, h2, if_true] at hc
      have ga := ga h1
      have gb := gb h2
      obtain ⟨da1, da2⟩ := dec_eq a i h1
      obtain ⟨db1, db2⟩ := dec_eq b j h2
      by_cases h3 : (Utf8.decode a i).1 = (Utf8.decode b j).1
      · rw [if_pos h3, da2, db2] at hc
        have hp := step_pos (g := gS a) h1
        obtain ⟨q1, q2⟩ := iha (by omega) hc
        obtain ⟨y1, y2, _⟩ := dYes h1 ga
        obtain ⟨z1, z2, _⟩ := dYes h2 gb
        have he : acc (gS a) i (wid (gS a i) - 1) = acc (gS b) j (wid (gS b j) - 1) := by rw [← y1, ← z1, ← da1, ← db1, h3]
        obtain ⟨r1, r2⟩ := rune_inj (gS_pos a i) (gS_pos b j) ga gb he
        have w1 : stepN (gS a) a.size i = wid (gS a i) := by simp [stepN, h1, ga]
        have w2 : stepN (gS b) b.size j = wid (gS b j) := by simp [stepN, h2, gb]
        have l1 := (dec_pos a i h1).2
        have l2 := (dec_pos b j h2).2
        rw [da2, w1] at l1
        rw [db2, w2] at l2
        rw [w1, w2] at q1 q2
        refine ⟨by omega, fun t ht => ?_⟩
        by_cases hw : t < wid (gS a i)
        · exact r2 t hw
        · have := q2 (t - wid (gS a i)) (by omega)
          rw [show i + wid (gS a i) + (t - wid (gS a i)) = i + t by omega, show j + wid (gS b j) + (t - wid (gS a i)) = j + t by omega] at this
          exact this
      · rw [if_neg h3] at hc
        split at hc <;> cases hc
    · simp [h1, h2] at hc
    · simp [h1, h2] at hc
    · exact ⟨by omega, fun t ht => by omega⟩
theorem cmp_same (a b : ByteArray) (ha : GoodT a) (hb : GoodT b) (h : cmpF a b (a.size + 1) 0 0 = 0) : a = b := by
  obtain ⟨h1, h2⟩ := cmp_zero a b ha hb (a.size + 1) 0 (by show a.size < 0 + (a.size + 1); omega) h
  have e0 : posn (gS a) a.size 0 = 0 := rfl
  have e1 : posn (gS b) b.size 0 = 0 := rfl
  rw [e0] at h1 h2
  rw [e1] at h1 h2
  have hs : a.data.size = b.data.size := by show a.size = b.size; omega
  apply ByteArray.ext
  refine Array.ext hs fun t ht ht' => ?_
  have := h2 t (by show 0 + t < a.data.size; omega)
  rw [Nat.zero_add] at this
  unfold gS at this
  rw [Array.getElem?_eq_getElem ht, Array.getElem?_eq_getElem ht'] at this
  simp only [Option.getD_some] at this
  exact UInt8.toNat_inj.1 (by omega)
end Go.Proofs.YthjlhdldomfikaaDoor

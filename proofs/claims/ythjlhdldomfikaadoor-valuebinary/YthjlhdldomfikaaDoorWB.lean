/- Merged: VUA, VUB. -/
import Derived.BigQuiet
import Derived.Laws.IdiomStrings
import Derived.LoopTactic
import Derived.Test.YthjlhdldomfikaaDoorVY6
import Derived.Test.YthjlhdldomfikaaDoorVYA
/- The document's own order of two texts, purely: the difference of the first runes that differ, or of how many there are. -/
namespace Go.Proofs.YthjlhdldomfikaaDoor
set_option linter.unusedSimpArgs false
set_option linter.unusedVariables false
set_option maxRecDepth 100000

theorem dRune_bd {g : Nat → Int} (hg : ∀ j, 0 ≤ g j) (len : Nat) (p : Int) : 0 ≤ dRune g len p ∧ dRune g len p ≤ 1114111 := by
  unfold dRune
  split
  · split
    · rename_i h
      obtain ⟨h1, h2, h3, h4, h5⟩ := good_inv h
      refine ⟨(acc_bd (hg _) h3).1, ?_⟩
      unfold alw at h5
      have := of_decide_eq_true h5
      omega
    · omega
  · omega
/-- The k-th rune. -/
def rn (s : ByteArray) (k : Nat) : Int := dRune (gS s) s.size (posn (gS s) s.size k)
theorem rn_bd (s : ByteArray) (k : Nat) : 0 ≤ rn s k ∧ rn s k ≤ 1114111 := dRune_bd (gS_pos s) _ _
def lessF (s t : ByteArray) (m m' : Nat) : Nat → Nat → Int
  | 0, _ => (m : Int) - m'
  | f + 1, k => if k < m ∧ k < m' then (if rn s k = rn t k then lessF s t m m' f (k + 1) else rn s k - rn t k) else (m : Int) - m'
theorem lessF_step (s t : ByteArray) (m m' k : Nat) (h : k < m) (h' : k < m') (e : rn s k = rn t k) : lessF s t m m' (m - k) k = lessF s t m m' (m - (k + 1)) (k + 1) := by
  rw [show m - k = (m - (k + 1)) + 1 by omega]
  simp [lessF, h, h', e]
theorem lessF_diff (s t : ByteArray) (m m' k : Nat) (h : k < m) (h' : k < m') (e : ¬ rn s k = rn t k) : lessF s t m m' (m - k) k = rn s k - rn t k := by
  rw [show m - k = (m - (k + 1)) + 1 by omega]
  simp [lessF, h, h', e]
theorem lessF_end (s t : ByteArray) (m m' k : Nat) (h : ¬ (k < m ∧ k < m')) : lessF s t m m' (m - k) k = (m : Int) - m' := by
  cases h1 : m - k with
  | zero => rfl
  | succ f => simp only [lessF, if_neg h]
theorem sign_neg {d : Int} (h : d < 0) : d.sign = -1 := Int.sign_eq_neg_one_of_neg h
theorem sign_pos {d : Int} (h : 0 < d) : d.sign = 1 := Int.sign_eq_one_of_pos h
/-- Its sign is the order by runes. -/
theorem less_sign (s t : ByteArray) (m m' : Nat) (hm : Runes (gS s) s.size m) (hm' : Runes (gS t) t.size m') : ∀ f k, k ≤ m → k ≤ m' → s.size < posn (gS s) s.size k + f →
    (lessF s t m m' (m - k) k).sign = cmpF s t f (posn (gS s) s.size k) (posn (gS t) t.size k) := by
  intro f
  induction f with
  | zero => intro k _ _ h; have := posn_le (gS s) s.size k; omega
  | succ f ih =>
    intro k hk hk' hf
    rw [cmpF_succ]
    have sa : posn (gS s) s.size (k + 1) = posn (gS s) s.size k + stepN (gS s) s.size (posn (gS s) s.size k) := rfl
    have sb : posn (gS t) t.size (k + 1) = posn (gS t) t.size k + stepN (gS t) t.size (posn (gS t) t.size k) := rfl
    by_cases h1 : k < m
    · have l1 := hm.2 k h1
      by_cases h2 : k < m'
      · have l2 := hm'.2 k h2
        obtain ⟨da1, da2⟩ := dec_eq s _ l1
        obtain ⟨db1, db2⟩ := dec_eq t _ l2
        have ea : ((Utf8.decode s (posn (gS s) s.size k)).1 : Int) = rn s k := da1
        have eb : ((Utf8.decode t (posn (gS t) t.size k)).1 : Int) = rn t k := db1
        rw [if_pos l1, if_pos l2, da2, db2, ← sa, ← sb]
        by_cases he : rn s k = rn t k
        · rw [if_pos (by omega), lessF_step s t m m' k h1 h2 he]
          have hp := step_pos (g := gS s) l1
          exact ih (k + 1) (by omega) (by omega) (by omega)
        · rw [if_neg (by omega), lessF_diff s t m m' k h1 h2 he]
          by_cases hl : rn s k < rn t k
          · rw [if_pos (by omega)]; exact sign_neg (by omega)
          · rw [if_neg (by omega)]; exact sign_pos (by omega)
      · have e2 : k = m' := by omega
        have l2 : posn (gS t) t.size k = t.size := by rw [e2]; exact hm'.1
        rw [if_pos l1, if_neg (by omega), lessF_end s t m m' k (by omega)]
        exact sign_pos (by omega)
    · have e1 : k = m := by omega
      have l1 : posn (gS s) s.size k = s.size := by rw [e1]; exact hm.1
      rw [if_neg (by omega), lessF_end s t m m' k (by omega)]
      by_cases h2 : k < m'
      · have l2 := hm'.2 k h2
        rw [if_pos l2]
        exact sign_neg (by omega)
      · have e2 : k = m' := by omega
        have l2 : posn (gS t) t.size k = t.size := by rw [e2]; exact hm'.1
        rw [if_neg (by omega), show (m : Int) - m' = 0 by omega]
        rfl
theorem less_is (s t : ByteArray) (m m' : Nat) (hm : Runes (gS s) s.size m) (hm' : Runes (gS t) t.size m') : (lessF s t m m' m 0).sign = cmpF s t (s.size + 1) 0 0 :=
  less_sign s t m m' hm hm' (s.size + 1) 0 (Nat.zero_le _) (Nat.zero_le _) (by show s.size < 0 + (s.size + 1); omega)
theorem sign_lt {d o : Int} (h : d.sign = o) : decide (d < 0) = decide (o < 0) ∧ decide (d ≤ 0) = decide (o ≤ 0) ∧ decide (0 < d) = decide (0 < o) ∧ decide (0 ≤ d) = decide (0 ≤ o) := by
  subst h
  rcases Int.lt_trichotomy d 0 with h | h | h
  · rw [sign_neg h]; refine ⟨?_, ?_, ?_, ?_⟩ <;> simp <;> omega
  · subst h; simp
  · rw [sign_pos h]; refine ⟨?_, ?_, ?_, ?_⟩ <;> simp <;> omega
end Go.Proofs.YthjlhdldomfikaaDoor

/- The reference's order of two texts (less), walked. -/
namespace Go.Proofs.YthjlhdldomfikaaDoor
set_option linter.unusedSimpArgs false
set_option linter.unusedVariables false
set_option maxRecDepth 100000
set_option maxHeartbeats 4000000
open Go.RowKit Go.Shelf

/-- A row of runes somewhere. -/
def RowR (w : World) (ao : Option Addr) (s : ByteArray) (m : Nat) : Prop := ∀ k, k < m → ∃ g, ao = some ⟨g, 0, none⟩ ∧ g < w.heap.size ∧ w.cell? ⟨g, k * 4 + 1, none⟩ = some (.int .i32 (rn s k))
theorem RowR.up {w w' : World} {ao : Option Addr} {s : ByteArray} {m : Nat} (h : RowR w ao s m) (hb : Below w.heap.size w w') : RowR w' ao s m := fun k hk => by
  obtain ⟨g, e, hl, hc⟩ := h k hk
  exact ⟨g, e, Nat.lt_of_lt_of_le hl hb.size, (World.cell?_of_block (w := w) (hb.block g hl)).trans hc⟩
theorem runes_of (s : ByteArray) (W : World) (hs : s.size ≤ 1048576) : ∃ cap C fr, (convert 9 62 (.string s)).run Tryd.prog W = .ok (.slice (some ⟨W.heap.size, 0, none⟩) s.size cap) (W.drew.alloc (.cells C 5 fr)) ∧
    Calls Tryd.prog 55 #[.slice (some ⟨W.heap.size, 0, none⟩) s.size cap] (W.drew.alloc (.cells C 5 fr)) fun e w' => ∃ m ao cp, e = .returned (.slice ao m cp) ∧ Runes (gS s) s.size m ∧ RowR w' ao s m ∧ Below W.heap.size W w' := by
  obtain ⟨cap, C, fr, hcv, h1, h2, hC⟩ := conv_str s W (by omega)
  have hSl : Sl (W.drew.alloc (.cells C 5 fr)) W.heap.size (.slice (some ⟨W.heap.size, 0, none⟩) s.size cap) s.size (gS s) := by
    by_cases h0 : s.size = 0
    · exact .inl ⟨_, _, by rw [h0], h0⟩
    · refine .inr ⟨0, cap, rfl, by omega, h1, h2, fun j hj => ?_⟩
      have hb : (W.drew.alloc (.cells C 5 fr)).heap[W.heap.size]? = some (.cells C 5 fr) := alloc_new W.drew _
      rw [Lib.cell_of_heap hb]
      simpa using hC j hj
  refine ⟨cap, C, fr, hcv, (rrunes_any (b := W.heap.size) (gS_bd s) _ hs hSl (by simp)).mono ?_⟩
  rintro e w2 ⟨m, v, rfl, hR, hown, hB⟩
  obtain ⟨ao, cp, rfl⟩ : ∃ ao cp, v = .slice ao m cp := by
    rcases hown.2 with ⟨q1, q2⟩ | ⟨g, cap, cur, q1, _⟩
    · exact ⟨none, 0, by rw [q1, q2]⟩
    · exact ⟨_, _, q1⟩
  refine ⟨m, ao, cp, rfl, hR, fun k hk => ?_, ((Below.refl W.heap.size W).drew.alloc (Nat.le_refl _) (.cells C 5 fr)).trans (hB.mono (by simp))⟩
  have hlt := hown.lt
  rcases hown.2 with ⟨q1, q2⟩ | ⟨g, cap, cur, q1, _⟩
  · omega
  · cases q1
    refine ⟨g, rfl, (hlt g rfl).2, ?_⟩
    have := hown.cells (g := g) rfl (k * 4 + 1) (.int .i32 (dRune (gS s) s.size (posn (gS s) s.size k))) (by rw [rows4_get _ _ hk (by omega)]; rfl)
    rw [Addr.add_lit, Nat.zero_add] at this
    exact this
theorem less_any (s t : ByteArray) (hs : s.size ≤ 1048576) (ht : t.size ≤ 1048576) : ∃ d : Int, d.sign = cmpF s t (s.size + 1) 0 0 ∧ Ret 51 #[.string s, .string t] (.int .i64 d) := by
  obtain ⟨m, hm, hml⟩ := runes_exist (gS s) s.size
  obtain ⟨m', hm', hml'⟩ := runes_exist (gS t) t.size
  refine ⟨lessF s t m m' m 0, less_is s t m m' hm hm', fun W => ?_⟩
  obtain ⟨d, hd⟩ : ∃ d, lessF s t m m' m 0 = d := ⟨_, rfl⟩
  rw [hd]
  have HD := hide hd
  have HM := hide hm
  have HM' := hide hm'
  have HT := hide ht
  have ga : (m : Int) ≤ 1048576 := by omega
  have gb : (m' : Int) ≤ 1048576 := by omega
  obtain ⟨cap, C, fr, hcv, hR0⟩ := runes_of s W hs
  have HR := hide hR0
  clear hd hm hm' ht hs hR0 hml hml'
  go_enter Tryd.func51, Tryd.ntmps51
  go_wp2_with (first
    | (go_at_call 55
       refine (unhide HR).mono ?_
       clear HR
       rintro e w2 ⟨m1, ao, cp, rfl, hRm, hrow, hB⟩
       obtain rfl := Runes.unique hRm (unhide HM)
       have HB := hide hB
       have HROW := hide hrow
       obtain ⟨cap2, C2, fr2, hcv2, hR2⟩ := runes_of t w2 (unhide HT)
       have HR2 := hide hR2
       clear hB hrow hR2 hRm)
    | (go_at_call 55
       refine (unhide HR2).mono ?_
       clear HR2
       rintro e w3 ⟨m2, ao2, cp2, rfl, hRm2, hrow2, hB2⟩
       obtain rfl := Runes.unique hRm2 (unhide HM')
       have HROW2 := hide hrow2
       have HROW3 := hide ((unhide HROW).up hB2)
       have HB3 := hide (Below.up (unhide HB) hB2)
       clear hB2 hrow2 hRm2))
  go_loopw [7] (fun x wr => ∃ k : Nat, k ≤ m1 ∧ k ≤ m2 ∧ x = .int .i64 k ∧ RowR wr ao s m1 ∧ RowR wr ao2 t m2 ∧ Below W.heap.size W wr ∧ lessF s t m1 m2 (m1 - k) k = d) (fun x _ => m1 - (intOf x).toNat)
  case atStart => exact ⟨0, Nat.zero_le _, Nat.zero_le _, rfl, unhide HROW3, unhide HROW2, unhide HB3, unhide HD⟩
  case round =>
    obtain ⟨k, hk, hk', rfl, hra, hrb, hbw, hinv⟩ := hrel
    have HI := hide hinv
    have HRA := hide hra
    have HRB := hide hrb
    have HBW := hide hbw
    clear hinv hra hrb hbw HROW HROW2 HROW3 HB3 HB
    by_cases h1 : k < m1 <;> by_cases h2 : k < m2
    · have g1 : (k : Int) < m1 := by omega
      have g2 : (k : Int) < m2 := by omega
      obtain ⟨b1, rfl, lt1, q1⟩ := unhide HRA k h1
      obtain ⟨b2, rfl, lt2, q2⟩ := unhide HRB k h2
      obtain ⟨u1, u2⟩ := rn_bd s k
      obtain ⟨v1, v2⟩ := rn_bd t k
      have HSTEP : Hid (rn s k = rn t k → lessF s t m1 m2 (m1 - (k + 1)) (k + 1) = d) := fun e => (lessF_step s t m1 m2 k h1 h2 e).symm.trans (unhide HI)
      have HDIF : Hid (¬ rn s k = rn t k → rn s k - rn t k = d) := fun e => (lessF_diff s t m1 m2 k h1 h2 e).symm.trans (unhide HI)
      obtain ⟨x, hx⟩ : ∃ x, rn s k = x := ⟨_, rfl⟩
      obtain ⟨y, hy⟩ : ∃ y, rn t k = y := ⟨_, rfl⟩
      rw [hx] at q1 u1 u2 HSTEP HDIF
      rw [hy] at q2 v1 v2 HSTEP HDIF
      clear hx hy
      by_cases he : x = y
      · have hxy := unhide HSTEP he
        have HXY := hide hxy
        subst he
        clear HSTEP HDIF hxy
        go_wp2
        go_quiet (fail)
        go_wp2
        exact ⟨⟨k + 1, by omega, by omega, by congr 1, fun j hj => unhide HRA j hj, fun j hj => unhide HRB j hj, (unhide HBW).trans ⟨rfl, rfl, rfl, Nat.le_refl _, fun _ _ => rfl⟩, unhide HXY⟩, by simp [intOf]; omega⟩
      · have hxy := unhide HDIF he
        have hne : (x == y) = false := by simpa using he
        clear HSTEP HDIF
        subst hxy
        go_wp2
        go_quiet (fail)
        go_wp2
        go_quiet (fail)
        go_wp2
        go_ret
        exact ⟨rfl, (unhide HBW).trans ⟨rfl, rfl, rfl, Nat.le_refl _, fun _ _ => rfl⟩⟩
    · have g1 : (k : Int) < m1 := by omega
      have g2 : ¬ (k : Int) < m2 := by omega
      have hd := (lessF_end s t m1 m2 k (by omega)).symm.trans (unhide HI)
      subst hd
      go_wp2
      go_ret
      exact ⟨rfl, (unhide HBW).trans ⟨rfl, rfl, rfl, Nat.le_refl _, fun _ _ => rfl⟩⟩
    · have g1 : ¬ (k : Int) < m1 := by omega
      have hd := (lessF_end s t m1 m2 k (by omega)).symm.trans (unhide HI)
      subst hd
      go_wp2
      go_ret
      exact ⟨rfl, (unhide HBW).trans ⟨rfl, rfl, rfl, Nat.le_refl _, fun _ _ => rfl⟩⟩
    · have g1 : ¬ (k : Int) < m1 := by omega
      have hd := (lessF_end s t m1 m2 k (by omega)).symm.trans (unhide HI)
      subst hd
      go_wp2
      go_ret
      exact ⟨rfl, (unhide HBW).trans ⟨rfl, rfl, rfl, Nat.le_refl _, fun _ _ => rfl⟩⟩
end Go.Proofs.YthjlhdldomfikaaDoor
